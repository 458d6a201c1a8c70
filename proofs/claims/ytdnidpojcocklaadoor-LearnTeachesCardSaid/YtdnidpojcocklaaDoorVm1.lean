/- Own texts on reading the model, joined: VmA, VmB, VmC, VmD, VmE, VmF, VmF2, VmF3, VmG, VmG2, VmG3, VmG4, VmH, VmH2, VmI. -/
import Derived.Laws.AppendOwn
import Derived.Laws.MakeOwn
import Derived.Laws.Small
import Derived.Calls
import Derived.Laws.StructEq
import Derived.ChangeKeysEq
set_option linter.unusedSimpArgs false
set_option linter.unusedVariables false
set_option linter.unnecessarySimpa false
section
/- Abstract values, their relation to the model's values, and its laws. -/
namespace Go.VM

inductive Room where
  | nil | full | no | e
  | tok (t z : Nat)
  deriving DecidableEq, Inhabited

inductive AV where
  | bool (b : Bool)
  | int (k : IntKind) (n : Int)
  | str (s : ByteArray)
  | nilP | nilM | nilF | nilI
  | agg (cs : List AV)
  | tup (cs : List AV)
  | ptr (b o : Nat)
  | cptr (cs : List AV)
  | sl (cs : List AV) (n : Nat) (r : Room)
  | msl (b o n cap z : Nat)
  | map (m : Nat)
  | fn (f : Fn) (first cap : List AV)
  | top
  deriving Inhabited

abbrev AV.undef : AV := .tup []

structure Ghost where
  φ : Nat → Option (Nat × Nat)
  fr : Nat → Nat → Option Value
  tk : Nat → Nat → Option (Nat × Nat × Nat)
  mp : Nat → Option Nat
  bases : List (Nat × Nat × Nat)

/-- a capacity that is not known -/
def noCap : Nat := maxLen + 1

def RoomOk (G : Ghost) (r : Room) (c o n cap : Nat) : Prop :=
  match r with
  | .nil | .e => False
  | .full => cap = n
  | .no => True
  | .tok t z => o = 0 ∧ G.tk t n = some (c, cap, z)

mutual
def VRel (G : Ghost) : AV → Value → Prop
  | .bool b, v => v = .bool b
  | .int k n, v => v = .int k n
  | .str s, v => v = .string s
  | .nilP, v => v = .pointer none
  | .nilM, v => v = .map none
  | .nilF, v => v = .nilFunc
  | .nilI, v => v = .nilIface
  | .agg cs, v => ∃ vs, v = .agg vs ∧ VRels G cs vs.toList
  | .tup cs, v => ∃ vs, v = .tuple vs ∧ VRels G cs vs.toList
  | .ptr b o, v => ∃ c, G.φ b = some c ∧ v = .pointer (some ⟨c.1, o, none⟩)
  | .cptr cs, v => ∃ c o vs, v = .pointer (some ⟨c, o, none⟩) ∧ VRels G cs vs ∧ ∀ i u, vs[i]? = some u → G.fr c (o + i) = some u
  | .sl cs n r, v => ((r = .nil ∧ cs = [] ∧ n = 0 ∧ v = .slice none 0 0) ∨ (r = .e ∧ cs = [] ∧ n = 0 ∧ ∃ a, v = .slice (some a) 0 0)) ∨
      (∃ c o cap vs, v = .slice (some ⟨c, o, none⟩) n cap ∧ n ≤ cap ∧ cap ≤ maxLen ∧ RoomOk G r c o n cap ∧ VRels G cs vs ∧ ∀ i u, vs[i]? = some u → G.fr c (o + i) = some u)
  | .msl b o n cap z, v => ∃ c, G.φ b = some c ∧ ∃ cap', v = .slice (some ⟨c.1, o, none⟩) n cap' ∧ n ≤ cap' ∧ cap' ≤ maxLen ∧ (cap = cap' ∨ cap = noCap) ∧ (cap = noCap → o + cap' * z ≤ c.2)
  | .map m, v => ∃ c, G.mp m = some c ∧ v = .map (some c)
  | .fn f first cap, v => ∃ fs cs, v = .func f fs cs ∧ VRels G first fs.toList ∧ VRels G cap cs.toList
  | .top, _ => True
def VRels (G : Ghost) : List AV → List Value → Prop
  | [], vs => vs = []
  | a :: as, vs => ∃ v vs', vs = v :: vs' ∧ VRel G a v ∧ VRels G as vs'
end

/-- the cells of package variables, where they are known -/
structure Globs where
  cell : Nat → List Value
  /-- slices of these types that append makes may be written -/
  wr : TypeId → Bool
def globs [i : Inhabited Globs] (g : Nat) : List Value := i.default.cell g
def appW [i : Inhabited Globs] (t : TypeId) : Bool := i.default.wr t
/-- they are known, and stay -/
def GlobOk [Inhabited Globs] (G : Ghost) : Prop := ∀ (g i : Nat) (v : Value), (globs g)[i]? = some v → G.fr g i = some v

structure Ghost.Le (G G' : Ghost) : Prop where
  φ : ∀ b c, G.φ b = some c → G'.φ b = some c
  fr : ∀ c o v, G.fr c o = some v → G'.fr c o = some v
  tk : ∀ t n x, G.tk t n = some x → G'.tk t n = some x
  mp : ∀ m c, G.mp m = some c → G'.mp m = some c

theorem GlobOk.mono [Inhabited Globs] {G G' : Ghost} (h : G.Le G') (k : GlobOk G) : GlobOk G' := fun g i v q => h.fr _ _ _ (k g i v q)
theorem Ghost.Le.refl (G : Ghost) : G.Le G := ⟨fun _ _ h => h, fun _ _ _ h => h, fun _ _ _ h => h, fun _ _ h => h⟩
theorem Ghost.Le.trans {A B C : Ghost} (h : A.Le B) (k : B.Le C) : A.Le C :=
  ⟨fun _ _ x => k.φ _ _ (h.φ _ _ x), fun _ _ _ x => k.fr _ _ _ (h.fr _ _ _ x), fun _ _ _ x => k.tk _ _ _ (h.tk _ _ _ x), fun _ _ x => k.mp _ _ (h.mp _ _ x)⟩

theorem RoomOk.mono {G G' : Ghost} (h : G.Le G') {r : Room} {c o n cap : Nat} (hr : RoomOk G r c o n cap) : RoomOk G' r c o n cap := by
  cases r <;> simp only [RoomOk] at *
  · exact hr
  · exact ⟨hr.1, h.tk _ _ _ hr.2⟩

mutual
theorem VRel.mono {G G' : Ghost} (h : G.Le G') : ∀ (a : AV) (v : Value), VRel G a v → VRel G' a v
  | .bool _, _, hv | .int _ _, _, hv | .str _, _, hv | .nilP, _, hv | .nilM, _, hv | .nilF, _, hv | .nilI, _, hv => by simpa only [VRel] using hv
  | .top, _, _ => by simp only [VRel]
  | .agg cs, v, hv => by
    simp only [VRel] at *
    obtain ⟨vs, e, hs⟩ := hv; exact ⟨vs, e, VRels.mono h cs _ hs⟩
  | .tup cs, v, hv => by
    simp only [VRel] at *
    obtain ⟨vs, e, hs⟩ := hv; exact ⟨vs, e, VRels.mono h cs _ hs⟩
  | .ptr b o, v, hv => by
    simp only [VRel] at *
    obtain ⟨c, e, hs⟩ := hv; exact ⟨c, h.φ _ _ e, hs⟩
  | .cptr cs, v, hv => by
    simp only [VRel] at *
    obtain ⟨c, o, vs, e, hs, hf⟩ := hv; exact ⟨c, o, vs, e, VRels.mono h cs _ hs, fun i u hu => h.fr _ _ _ (hf i u hu)⟩
  | .sl cs n r, v, hv => by
    simp only [VRel] at *
    rcases hv with hv | ⟨c, o, cap, vs, e, h1, h2, h3, hs, hf⟩
    · exact .inl hv
    · exact .inr ⟨c, o, cap, vs, e, h1, h2, h3.mono h, VRels.mono h cs _ hs, fun i u hu => h.fr _ _ _ (hf i u hu)⟩
  | .msl b o n cap z, v, hv => by
    simp only [VRel] at *
    obtain ⟨c, e, hs⟩ := hv; exact ⟨c, h.φ _ _ e, hs⟩
  | .map m, v, hv => by
    simp only [VRel] at *
    obtain ⟨c, e, hs⟩ := hv; exact ⟨c, h.mp _ _ e, hs⟩
  | .fn f a b, v, hv => by
    simp only [VRel] at *
    obtain ⟨fs, cs, e, h1, h2⟩ := hv; exact ⟨fs, cs, e, VRels.mono h a _ h1, VRels.mono h b _ h2⟩
theorem VRels.mono {G G' : Ghost} (h : G.Le G') : ∀ (as : List AV) (vs : List Value), VRels G as vs → VRels G' as vs
  | [], _, hv => by simpa only [VRels] using hv
  | a :: as, vs, hv => by
    simp only [VRels] at *
    obtain ⟨v, vs', e, h1, h2⟩ := hv; exact ⟨v, vs', e, VRel.mono h a v h1, VRels.mono h as vs' h2⟩
end
end Go.VM
end
section
/- The abstract heap, its relation to the model's world, and steps. -/
namespace Go.VM

structure H where
  blk : List (List AV)
  toks : List Nat
  maps : List (List (AV × AV))
  deriving Inhabited

def Room.bnd (nt : Nat) : Room → Bool
  | .tok t _ => decide (t < nt)
  | _ => true

mutual
def AV.bnd (nb nt nm : Nat) : AV → Bool
  | .agg cs | .tup cs | .cptr cs => AV.bnds nb nt nm cs
  | .ptr b _ => decide (b < nb)
  | .sl cs _ r => r.bnd nt && AV.bnds nb nt nm cs
  | .msl b _ _ _ _ => decide (b < nb)
  | .map m => decide (m < nm)
  | .fn _ a b => AV.bnds nb nt nm a && AV.bnds nb nt nm b
  | _ => true
def AV.bnds (nb nt nm : Nat) : List AV → Bool
  | [] => true
  | a :: as => AV.bnd nb nt nm a && AV.bnds nb nt nm as
end

/-- keys of maps -/
def AV.key1 : AV → Bool
  | .bool _ | .int _ _ | .str _ => true
  | _ => false
def AV.key : AV → Bool
  | .agg cs => cs.all AV.key1
  | a => a.key1

/-- one cell -/
def AV.one : AV → Bool
  | .agg _ | .tup _ | .top => false
  | _ => true

structure Dom (G : Ghost) (nb nt nm : Nat) : Prop where
  φ : ∀ b c, G.φ b = some c → b < nb
  tk : ∀ t n x, G.tk t n = some x → t < nt
  mp : ∀ m c, G.mp m = some c → m < nm

theorem RoomOk.bnd {G : Ghost} {nb nt nm : Nat} (d : Dom G nb nt nm) {r : Room} {c o n cap : Nat} (h : RoomOk G r c o n cap) : r.bnd nt = true := by
  cases r <;> simp only [RoomOk, Room.bnd] at *
  simp [d.tk _ _ _ h.2]

mutual
theorem VRel.bnd {G : Ghost} {nb nt nm : Nat} (d : Dom G nb nt nm) : ∀ (a : AV) (v : Value), VRel G a v → a.bnd nb nt nm = true
  | .bool _, _, _ | .int _ _, _, _ | .str _, _, _ | .nilP, _, _ | .nilM, _, _ | .nilF, _, _ | .nilI, _, _ | .top, _, _ => by simp only [AV.bnd]
  | .agg cs, v, h => by
    simp only [VRel, AV.bnd] at *
    obtain ⟨vs, _, hs⟩ := h; exact VRels.bnd d cs _ hs
  | .tup cs, v, h => by
    simp only [VRel, AV.bnd] at *
    obtain ⟨vs, _, hs⟩ := h; exact VRels.bnd d cs _ hs
  | .ptr b o, v, h => by
    simp only [VRel, AV.bnd] at *
    obtain ⟨c, e, _⟩ := h; simpa using d.φ _ _ e
  | .cptr cs, v, h => by
    simp only [VRel, AV.bnd] at *
    obtain ⟨c, o, vs, _, hs, _⟩ := h; exact VRels.bnd d cs _ hs
  | .sl cs n r, v, h => by
    simp only [VRel, AV.bnd] at *
    rcases h with (⟨rfl, rfl, _, _⟩ | ⟨rfl, rfl, _, _⟩) | ⟨c, o, cap, vs, _, _, _, h3, hs, _⟩
    · simp [Room.bnd, AV.bnds]
    · simp [Room.bnd, AV.bnds]
    · simp [h3.bnd d, VRels.bnd d cs _ hs]
  | .msl b o n cap z, v, h => by
    simp only [VRel, AV.bnd] at *
    obtain ⟨c, e, _⟩ := h; simpa using d.φ _ _ e
  | .map m, v, h => by
    simp only [VRel, AV.bnd] at *
    obtain ⟨c, e, _⟩ := h; simpa using d.mp _ _ e
  | .fn f a b, v, h => by
    simp only [VRel, AV.bnd] at *
    obtain ⟨fs, cs, _, h1, h2⟩ := h; simp [VRels.bnd d a _ h1, VRels.bnd d b _ h2]
theorem VRels.bnd {G : Ghost} {nb nt nm : Nat} (d : Dom G nb nt nm) : ∀ (as : List AV) (vs : List Value), VRels G as vs → AV.bnds nb nt nm as = true
  | [], _, _ => by simp only [AV.bnds]
  | a :: as, vs, h => by
    simp only [VRels, AV.bnds] at *
    obtain ⟨v, vs', _, h1, h2⟩ := h; simp [VRel.bnd d a v h1, VRels.bnd d as vs' h2]
end

/-- G' knows all that G knows below the bounds -/
structure Ghost.LeBelow (nb nt nm : Nat) (G G' : Ghost) : Prop where
  φ : ∀ b c, b < nb → G.φ b = some c → G'.φ b = some c
  fr : ∀ c o v, G.fr c o = some v → G'.fr c o = some v
  tk : ∀ t n x, t < nt → G.tk t n = some x → G'.tk t n = some x
  mp : ∀ m c, m < nm → G.mp m = some c → G'.mp m = some c

theorem RoomOk.below {G G' : Ghost} {nb nt nm : Nat} (h : G.LeBelow nb nt nm G') {r : Room} (hb : r.bnd nt = true) {c o n cap : Nat} (hr : RoomOk G r c o n cap) : RoomOk G' r c o n cap := by
  cases r <;> simp only [RoomOk, Room.bnd] at *
  · exact hr
  · exact ⟨hr.1, h.tk _ _ _ (by simpa using hb) hr.2⟩

mutual
theorem VRel.below {G G' : Ghost} {nb nt nm : Nat} (h : G.LeBelow nb nt nm G') : ∀ (a : AV) (v : Value), a.bnd nb nt nm = true → VRel G a v → VRel G' a v
  | .bool _, _, _, hv | .int _ _, _, _, hv | .str _, _, _, hv | .nilP, _, _, hv | .nilM, _, _, hv | .nilF, _, _, hv | .nilI, _, _, hv | .top, _, _, hv => by first | (simp only [VRel]; done) | (simp only [VRel] at hv ⊢; exact hv)
  | .agg cs, v, hb, hv => by
    simp only [VRel, AV.bnd] at *
    obtain ⟨vs, e, hs⟩ := hv; exact ⟨vs, e, VRels.below h cs _ hb hs⟩
  | .tup cs, v, hb, hv => by
    simp only [VRel, AV.bnd] at *
    obtain ⟨vs, e, hs⟩ := hv; exact ⟨vs, e, VRels.below h cs _ hb hs⟩
  | .ptr b o, v, hb, hv => by
    simp only [VRel, AV.bnd, decide_eq_true_eq] at *
    obtain ⟨c, e, hs⟩ := hv; exact ⟨c, h.φ _ _ hb e, hs⟩
  | .cptr cs, v, hb, hv => by
    simp only [VRel, AV.bnd] at *
    obtain ⟨c, o, vs, e, hs, hf⟩ := hv; exact ⟨c, o, vs, e, VRels.below h cs _ hb hs, fun i u hu => h.fr _ _ _ (hf i u hu)⟩
  | .sl cs n r, v, hb, hv => by
    simp only [VRel, AV.bnd, Bool.and_eq_true] at *
    rcases hv with hv | ⟨c, o, cap, vs, e, h1, h2, h3, hs, hf⟩
    · exact .inl hv
    · exact .inr ⟨c, o, cap, vs, e, h1, h2, h3.below h hb.1, VRels.below h cs _ hb.2 hs, fun i u hu => h.fr _ _ _ (hf i u hu)⟩
  | .msl b o n cap z, v, hb, hv => by
    simp only [VRel, AV.bnd, decide_eq_true_eq] at *
    obtain ⟨c, e, hs⟩ := hv; exact ⟨c, h.φ _ _ hb e, hs⟩
  | .map m, v, hb, hv => by
    simp only [VRel, AV.bnd, decide_eq_true_eq] at *
    obtain ⟨c, e, hs⟩ := hv; exact ⟨c, h.mp _ _ hb e, hs⟩
  | .fn f a b, v, hb, hv => by
    simp only [VRel, AV.bnd, Bool.and_eq_true] at *
    obtain ⟨fs, cs, e, h1, h2⟩ := hv; exact ⟨fs, cs, e, VRels.below h a _ hb.1 h1, VRels.below h b _ hb.2 h2⟩
theorem VRels.below {G G' : Ghost} {nb nt nm : Nat} (h : G.LeBelow nb nt nm G') : ∀ (as : List AV) (vs : List Value), AV.bnds nb nt nm as = true → VRels G as vs → VRels G' as vs
  | [], _, _, hv => by simpa only [VRels] using hv
  | a :: as, vs, hb, hv => by
    simp only [VRels, AV.bnds, Bool.and_eq_true] at *
    obtain ⟨v, vs', e, h1, h2⟩ := hv; exact ⟨v, vs', e, VRel.below h a v hb.1 h1, VRels.below h as vs' hb.2 h2⟩
end

mutual
theorem AV.bnd_mono {nb nt nm nb' nt' nm' : Nat} (hb : nb ≤ nb') (ht : nt ≤ nt') (hm : nm ≤ nm') : ∀ a : AV, a.bnd nb nt nm = true → a.bnd nb' nt' nm' = true
  | .bool _, _ | .int _ _, _ | .str _, _ | .nilP, _ | .nilM, _ | .nilF, _ | .nilI, _ | .top, _ => by simp only [AV.bnd]
  | .agg cs, h | .tup cs, h | .cptr cs, h => by simp only [AV.bnd] at *; exact AV.bnds_mono hb ht hm cs h
  | .ptr b o, h => by simp only [AV.bnd, decide_eq_true_eq] at *; omega
  | .msl b _ _ _ _, h => by simp only [AV.bnd, decide_eq_true_eq] at *; omega
  | .map m, h => by simp only [AV.bnd, decide_eq_true_eq] at *; omega
  | .sl cs n r, h => by
    simp only [AV.bnd, Bool.and_eq_true] at *
    refine ⟨?_, AV.bnds_mono hb ht hm cs h.2⟩
    have := h.1
    cases r <;> simp only [Room.bnd, decide_eq_true_eq] at *
    omega
  | .fn f a b, h => by simp only [AV.bnd, Bool.and_eq_true] at *; exact ⟨AV.bnds_mono hb ht hm a h.1, AV.bnds_mono hb ht hm b h.2⟩
theorem AV.bnds_mono {nb nt nm nb' nt' nm' : Nat} (hb : nb ≤ nb') (ht : nt ≤ nt') (hm : nm ≤ nm') : ∀ as : List AV, AV.bnds nb nt nm as = true → AV.bnds nb' nt' nm' as = true
  | [], _ => by simp only [AV.bnds]
  | a :: as, h => by simp only [AV.bnds, Bool.and_eq_true] at *; exact ⟨AV.bnd_mono hb ht hm a h.1, AV.bnds_mono hb ht hm as h.2⟩
end

/-! Lists -/
theorem VRels.length {G : Ghost} : ∀ {as : List AV} {vs : List Value}, VRels G as vs → as.length = vs.length
  | [], _, h => by simp only [VRels] at h; simp [h]
  | a :: as, _, h => by
    simp only [VRels] at h
    obtain ⟨v, vs', rfl, _, h2⟩ := h
    simp [h2.length]
theorem VRels.get {G : Ghost} : ∀ {as : List AV} {vs : List Value}, VRels G as vs → ∀ (i : Nat) (a : AV), as[i]? = some a → ∃ v, vs[i]? = some v ∧ VRel G a v
  | [], _, _, i, a, h => by simp at h
  | a :: as, _, h, i, b, hb => by
    simp only [VRels] at h
    obtain ⟨v, vs', rfl, h1, h2⟩ := h
    cases i with
    | zero => simp at hb; subst hb; exact ⟨v, by simp, h1⟩
    | succ i => simp at hb; obtain ⟨u, e, r⟩ := h2.get i b hb; exact ⟨u, by simpa using e, r⟩
theorem VRels.get' {G : Ghost} {as : List AV} {vs : List Value} (h : VRels G as vs) (i : Nat) (v : Value) (hv : vs[i]? = some v) : ∃ a, as[i]? = some a ∧ VRel G a v := by
  have hl := h.length
  have hi : i < vs.length := by rw [List.getElem?_eq_some_iff] at hv; exact hv.1
  obtain ⟨u, e, r⟩ := h.get i as[i] (by simp)
  rw [hv] at e; cases e
  exact ⟨as[i], by simp, r⟩
theorem VRels.append {G : Ghost} : ∀ {as bs : List AV} {vs us : List Value}, VRels G as vs → VRels G bs us → VRels G (as ++ bs) (vs ++ us)
  | [], _, _, _, h, k => by simp only [VRels] at h; subst h; simpa using k
  | a :: as, _, _, _, h, k => by
    simp only [VRels] at h
    obtain ⟨v, vs', rfl, h1, h2⟩ := h
    simp only [List.cons_append, VRels]
    exact ⟨v, _, rfl, h1, h2.append k⟩
theorem VRels.drop {G : Ghost} : ∀ {as : List AV} {vs : List Value} (n : Nat), VRels G as vs → VRels G (as.drop n) (vs.drop n)
  | as, vs, 0, h => by simpa using h
  | [], _, n + 1, h => by simp only [VRels] at h; subst h; simp [VRels]
  | a :: as, _, n + 1, h => by
    simp only [VRels] at h
    obtain ⟨v, vs', rfl, h1, h2⟩ := h
    simpa using h2.drop n
theorem VRels.take {G : Ghost} : ∀ {as : List AV} {vs : List Value} (n : Nat), VRels G as vs → VRels G (as.take n) (vs.take n)
  | _, _, 0, _ => by simp [VRels]
  | [], _, n + 1, h => by simp only [VRels] at h; subst h; simp [VRels]
  | a :: as, _, n + 1, h => by
    simp only [VRels] at h
    obtain ⟨v, vs', rfl, h1, h2⟩ := h
    simp only [List.take_succ_cons, VRels]
    exact ⟨v, _, rfl, h1, h2.take n⟩
theorem VRels.set {G : Ghost} : ∀ {as : List AV} {vs : List Value} (n : Nat) {a : AV} {v : Value}, VRels G as vs → VRel G a v → VRels G (as.set n a) (vs.set n v)
  | [], _, n, _, _, h, _ => by simp only [VRels] at h; subst h; simp [VRels]
  | a :: as, _, 0, _, _, h, k => by
    simp only [VRels] at h
    obtain ⟨v, vs', rfl, h1, h2⟩ := h
    simp only [List.set_cons_zero, VRels]; exact ⟨_, _, rfl, k, h2⟩
  | a :: as, _, n + 1, _, _, h, k => by
    simp only [VRels] at h
    obtain ⟨v, vs', rfl, h1, h2⟩ := h
    simp only [List.set_cons_succ, VRels]; exact ⟨_, _, rfl, h1, h2.set n k⟩
theorem VRels.replicate {G : Ghost} {a : AV} {v : Value} (h : VRel G a v) : ∀ n, VRels G (List.replicate n a) (List.replicate n v)
  | 0 => by simp [VRels]
  | n + 1 => by simp only [List.replicate_succ, VRels]; exact ⟨v, _, rfl, h, VRels.replicate h n⟩

theorem AV.bnds_iff {nb nt nm : Nat} : ∀ {as : List AV}, AV.bnds nb nt nm as = true ↔ ∀ a ∈ as, a.bnd nb nt nm = true
  | [] => by simp [AV.bnds]
  | a :: as => by simp [AV.bnds, AV.bnds_iff (as := as)]

/-- one abstract cell is one of the model's -/
theorem VRel.one {G : Ghost} {a : AV} {v : Value} (h : VRel G a v) (ha : a.one = true) : v.oneCell' = true := by
  cases a <;> simp only [VRel, AV.one, Bool.false_eq_true] at *
  case sl => rcases h with (⟨_, _, _, rfl⟩ | ⟨_, _, _, _, rfl⟩) | ⟨c, o, cap, vs, rfl, _⟩ <;> rfl
  all_goals first
    | (subst h; rfl)
    | (obtain ⟨c, o, vs, rfl, _⟩ := h; rfl)
    | (obtain ⟨c, _, rfl⟩ := h; rfl)
    | (obtain ⟨c, _, rfl, _⟩ := h; rfl)
    | (obtain ⟨c, _, _, rfl, _⟩ := h; rfl)
    | (obtain ⟨fs, cs, rfl, _⟩ := h; rfl)

def MOk (M : List (AV × AV)) : Prop := (M.map (·.1)).Nodup ∧ ∀ kv ∈ M, kv.1.key = true ∧ kv.2.bnd 0 0 0 = true
def MRel (G : Ghost) (M : List (AV × AV)) (es : Array MapEntry) (clock : Nat) : Prop :=
  MOk M ∧ ∃ M' : List (AV × AV), M'.Perm M ∧ M'.length = es.size ∧
    (∀ (i : Nat) (kv : AV × AV) (e : MapEntry), M'[i]? = some kv → es[i]? = some e → VRel G kv.1 e.key ∧ VRel G kv.2 e.val) ∧ (∀ e ∈ es.toList, e.born < clock) ∧ (es.toList.map (·.born)).Nodup

theorem MRel.mono {G G' : Ghost} (h : G.Le G') {M : List (AV × AV)} {es : Array MapEntry} {clock : Nat} (hm : MRel G M es clock) : MRel G' M es clock := by
  obtain ⟨ho, M', h1, h2, h3, h4⟩ := hm
  exact ⟨ho, M', h1, h2, fun i kv e a b => ⟨VRel.mono h _ _ (h3 i kv e a b).1, VRel.mono h _ _ (h3 i kv e a b).2⟩, h4⟩

structure SRel (G : Ghost) (h : H) (w : World) : Prop where
  dom : Dom G h.blk.length h.toks.length h.maps.length
  blk : ∀ b c, G.φ b = some c → ∃ cs arr e, h.blk[b]? = some cs ∧ w.heap[c.1]? = some (.cells arr e (0, 0)) ∧ arr.size = c.2 ∧ VRels G cs (arr.toList.take cs.length)
  tok : ∀ t n, h.toks[t]? = some n → ∃ c cap size cur e, G.tk t n = some (c, cap, size) ∧ w.heap[c]? = some (.cells cur e (0, 0)) ∧ cur.size = cap * size ∧ n ≤ cap ∧ cap ≤ maxLen ∧
    ∀ o v, G.fr c o = some v → o < n * size
  map : ∀ m c, G.mp m = some c → ∃ M es clock, h.maps[m]? = some M ∧ w.heap[c]? = some (.map es clock) ∧ MRel G M es clock
  fr : ∀ c o v, G.fr c o = some v → w.cell? ⟨c, o, none⟩ = some v
  injφ : ∀ b b' c c', G.φ b = some c → G.φ b' = some c' → c.1 = c'.1 → b = b' ∨ h.blk[b]? = some [] ∨ h.blk[b']? = some []
  φfr : ∀ b c o, G.φ b = some c → h.blk[b]? ≠ some [] → G.fr c.1 o = none
  φtk : ∀ b c t n cap s, G.φ b = some c → h.toks[t]? = some n → G.tk t n ≠ some (c.1, cap, s)
  tkle : ∀ t n x, G.tk t n = some x → ∀ cur, h.toks[t]? = some cur → n ≤ cur
  injtk : ∀ t t' n n' c cap s cap' s', h.toks[t]? = some n → h.toks[t']? = some n' → G.tk t n = some (c, cap, s) → G.tk t' n' = some (c, cap', s') → t = t'
  injmp : ∀ m m' c, G.mp m = some c → G.mp m' = some c → m = m'
  bases : ∀ β ∈ G.bases, β.1 ≤ h.blk.length ∧ β.2.1 ≤ h.toks.length ∧ β.2.2 ≤ h.maps.length ∧
    ∀ b c cs, G.φ b = some c → b < β.1 → h.blk[b]? = some cs → AV.bnds β.1 β.2.1 β.2.2 cs = true

def Own (G : Ghost) (h : H) (c : Nat) : Prop :=
  (∃ b s, G.φ b = some (c, s) ∧ h.blk[b]? ≠ some []) ∨ (∃ t n cap s, h.toks[t]? = some n ∧ G.tk t n = some (c, cap, s)) ∨ (∃ m, G.mp m = some c)

structure Step (G : Ghost) (h : H) (w : World) (G' : Ghost) (h' : H) (w' : World) : Prop where
  le : G.Le G'
  os : w'.os = w.os
  tape : w'.tape = w.tape
  output : w'.output = w.output
  size : w.heap.size ≤ w'.heap.size
  keep : ∀ c, c < w.heap.size → ¬ Own G h c → w'.heap[c]? = w.heap[c]?
  own : ∀ c, Own G' h' c → Own G h c ∨ w.heap.size ≤ c
  bases : G'.bases = G.bases
  pend : (∀ b c, G'.φ b = some c → b < h.blk.length → G.φ b = some c) ∧ h.blk.length ≤ h'.blk.length
  frnew : ∀ c o v, G'.fr c o = some v → G.fr c o = some v ∨ w.heap.size ≤ c ∨ Own G h c

theorem Step.refl (G : Ghost) (h : H) (w : World) : Step G h w G h w :=
  ⟨.refl G, rfl, rfl, rfl, Nat.le_refl _, fun _ _ _ => rfl, fun _ h => .inl h, rfl, ⟨fun _ _ h _ => h, Nat.le_refl _⟩, fun _ _ _ h => .inl h⟩
theorem Step.trans {G G1 G2 : Ghost} {h h1 h2 : H} {w w1 w2 : World} (a : Step G h w G1 h1 w1) (b : Step G1 h1 w1 G2 h2 w2) : Step G h w G2 h2 w2 :=
  ⟨a.le.trans b.le, b.os.trans a.os, b.tape.trans a.tape, b.output.trans a.output, Nat.le_trans a.size b.size,
    fun c hc hn => (b.keep c (Nat.lt_of_lt_of_le hc a.size) (fun ho => by rcases a.own c ho with h | h; exact hn h; omega)).trans (a.keep c hc hn),
    fun c ho => by
      rcases b.own c ho with h | h
      · exact a.own c h
      · exact .inr (Nat.le_trans a.size h),
    b.bases.trans a.bases, ⟨fun x c hx hl => a.pend.1 x c (b.pend.1 x c hx (Nat.lt_of_lt_of_le hl a.pend.2)) hl, Nat.le_trans a.pend.2 b.pend.2⟩, fun c o v hv => by
      rcases b.frnew c o v hv with q | q | q
      · exact a.frnew c o v q
      · exact .inr (.inl (Nat.le_trans a.size q))
      · rcases a.own c q with q | q
        · exact .inr (.inr q)
        · exact .inr (.inl q)⟩
end Go.VM
end
section
/- How the relation of heaps goes on when the model's world gains a block, or one is written. -/
namespace Go.VM

variable {G : Ghost} {h : H} {w : World}

theorem SRel.drew (s : SRel G h w) : SRel G h w.drew := ⟨s.dom, s.blk, s.tok, s.map, s.fr, s.injφ, s.φfr, s.φtk, s.tkle, s.injtk, s.injmp, s.bases⟩
theorem SRel.drawn (s : SRel G h w) (n : Nat) : SRel G h { w with drawn := n } := ⟨s.dom, s.blk, s.tok, s.map, s.fr, s.injφ, s.φfr, s.φtk, s.tkle, s.injtk, s.injmp, s.bases⟩
theorem Step.drawn (G : Ghost) (h : H) (w : World) (n : Nat) : Step G h w G h { w with drawn := n } :=
  ⟨.refl G, rfl, rfl, rfl, Nat.le_refl _, fun _ _ _ => rfl, fun _ h => .inl h, rfl, ⟨fun _ _ h _ => h, Nat.le_refl _⟩, fun _ _ _ h => .inl h⟩

theorem lt_of_get {w : World} {c : Nat} {o : Obj} (h : w.heap[c]? = some o) : c < w.heap.size := (Array.getElem?_eq_some_iff.1 h).1

theorem SRel.own_lt (s : SRel G h w) {c : Nat} (ho : Own G h c) : c < w.heap.size := by
  rcases ho with ⟨b, sb, hb, _⟩ | ⟨t, n, cap, sz, ht, hk⟩ | ⟨m, hm⟩
  · obtain ⟨_, _, _, _, hh, _⟩ := s.blk b (c, sb) hb; exact lt_of_get hh
  · obtain ⟨c', _, _, _, _, h1, hh, _⟩ := s.tok t n ht
    rw [hk] at h1; cases h1; exact lt_of_get hh
  · obtain ⟨_, _, _, _, hh, _⟩ := s.map m c hm; exact lt_of_get hh

theorem SRel.φ_lt (s : SRel G h w) {b : Nat} {c : Nat × Nat} (hb : G.φ b = some c) : c.1 < w.heap.size := by
  obtain ⟨_, _, _, _, hh, _⟩ := s.blk b c hb; exact lt_of_get hh

theorem SRel.fr_lt (s : SRel G h w) {c o : Nat} {v : Value} (hf : G.fr c o = some v) : c < w.heap.size :=
  World.block_lt_of_cell? w _ (s.fr c o v hf)

theorem cell_alloc_lt {w : World} {o : Obj} {c i : Nat} (hc : c < w.heap.size) : (w.alloc o).cell? ⟨c, i, none⟩ = w.cell? ⟨c, i, none⟩ :=
  World.cell?_of_block (heap_alloc_old w o c hc)

/-- a new block of the model's that nothing abstract speaks of -/
theorem SRel.garbage (s : SRel G h w) (o : Obj) : SRel G h (w.alloc o) where
  dom := s.dom
  blk b c hb := by
    obtain ⟨cs, arr, e, h1, h2, h3⟩ := s.blk b c hb
    exact ⟨cs, arr, e, h1, by rw [heap_alloc_old w o c.1 (lt_of_get h2)]; exact h2, h3⟩
  tok t n ht := by
    obtain ⟨c, cap, size, cur, e, h1, h2, h3⟩ := s.tok t n ht
    exact ⟨c, cap, size, cur, e, h1, by rw [heap_alloc_old w o c (lt_of_get h2)]; exact h2, h3⟩
  map m c hm := by
    obtain ⟨M, es, clock, h1, h2, h3⟩ := s.map m c hm
    exact ⟨M, es, clock, h1, by rw [heap_alloc_old w o c (lt_of_get h2)]; exact h2, h3⟩
  fr c i v hf := by rw [cell_alloc_lt (s.fr_lt hf)]; exact s.fr c i v hf
  injφ := s.injφ
  φfr := s.φfr
  φtk := s.φtk
  tkle := s.tkle
  injtk := s.injtk
  injmp := s.injmp
  bases := s.bases

theorem Step.garbage (G : Ghost) (h : H) (w : World) (o : Obj) : Step G h w G h (w.alloc o) :=
  ⟨.refl G, rfl, rfl, rfl, by simp, fun c hc _ => heap_alloc_old w o c hc, fun _ h => .inl h, rfl, ⟨fun _ _ h _ => h, Nat.le_refl _⟩, fun _ _ _ h => .inl h⟩

/-- cells of one block are taken as known for ever -/
def Ghost.freeze (G : Ghost) (c : Nat) (f : Nat → Option Value) : Ghost :=
  { G with fr := fun c' o => if c' = c then (match f o with | some v => some v | none => G.fr c' o) else G.fr c' o }

theorem Ghost.freeze_le {G : Ghost} {c : Nat} {f : Nat → Option Value} (hf : ∀ o v u, f o = some v → G.fr c o = some u → v = u) : G.Le (G.freeze c f) := by
  refine ⟨fun _ _ h => h, fun c' o v h => ?_, fun _ _ _ h => h, fun _ _ h => h⟩
  simp only [Ghost.freeze]
  split
  · rename_i e; subst e
    cases hfo : f o with
    | none => simpa using h
    | some u => simp [hf o u v hfo h]
  · exact h

theorem SRel.freezeAt (s : SRel G h w) (c : Nat) (f : Nat → Option Value) (hc : ∀ o v, f o = some v → w.cell? ⟨c, o, none⟩ = some v)
    (hφ : ∀ b s, G.φ b = some (c, s) → ∀ o, f o = none) (htk : ∀ t n cap sz, h.toks[t]? = some n → G.tk t n = some (c, cap, sz) → ∀ o v, f o = some v → o < n * sz) :
    SRel (G.freeze c f) h w := by
  have hle : G.Le (G.freeze c f) := Ghost.freeze_le (fun o v u h1 h2 => by
    have a := hc o v h1; have b := s.fr c o u h2; rw [a] at b; exact (Option.some.inj b))
  refine ⟨⟨s.dom.φ, s.dom.tk, s.dom.mp⟩, ?_, ?_, ?_, ?_, s.injφ, ?_, s.φtk, s.tkle, s.injtk, s.injmp, s.bases⟩
  · intro b c' hb
    obtain ⟨cs, arr, e, h1, h2, h2', h3⟩ := s.blk b c' hb
    exact ⟨cs, arr, e, h1, h2, h2', VRels.mono hle _ _ h3⟩
  · intro t n ht
    obtain ⟨c', cap, size, cur, e, h1, h2, h3, h4, h5, h6⟩ := s.tok t n ht
    refine ⟨c', cap, size, cur, e, h1, h2, h3, h4, h5, fun o v hv => ?_⟩
    simp only [Ghost.freeze] at hv
    split at hv
    · rename_i ec; subst ec
      cases hfo : f o with
      | none => rw [hfo] at hv; exact h6 o v hv
      | some u => exact htk t n cap size ht h1 o u hfo
    · exact h6 o v hv
  · intro m c' hm
    obtain ⟨M, es, clock, h1, h2, h3⟩ := s.map m c' hm
    exact ⟨M, es, clock, h1, h2, h3.mono hle⟩
  · intro c' o v hv
    simp only [Ghost.freeze] at hv
    split at hv
    · rename_i ec; subst ec
      cases hfo : f o with
      | none => rw [hfo] at hv; exact s.fr c' o v hv
      | some u => rw [hfo] at hv; simp at hv; subst hv; exact hc o u hfo
    · exact s.fr c' o v hv
  · intro b c' o hb hl
    simp only [Ghost.freeze]
    split
    · rename_i ec
      rw [hφ b c'.2 (by rw [← ec]; exact hb) o]; exact s.φfr b c' o hb hl
    · exact s.φfr b c' o hb hl

theorem Step.freeze {c : Nat} {f : Nat → Option Value} (hle : G.Le (G.freeze c f)) (h : H) (w : World) (hc : ∀ o v, f o = some v → G.fr c o = some v ∨ w.heap.size ≤ c ∨ Own G h c) : Step G h w (G.freeze c f) h w :=
  ⟨hle, rfl, rfl, rfl, Nat.le_refl _, fun _ _ _ => rfl, fun _ ho => .inl ho, rfl, ⟨fun _ _ h _ => h, Nat.le_refl _⟩, fun c' o v hv => by
    simp only [Ghost.freeze] at hv
    split at hv
    · rename_i e; subst e
      cases hfo : f o with
      | none => rw [hfo] at hv; exact .inl hv
      | some u => rw [hfo] at hv; simp at hv; subst hv; exact hc o u hfo
    · exact .inl hv⟩

/-- a new block of the model's whose cells stay as they are -/
theorem SRel.freezeNew (s : SRel G h w) (arr : Array Value) (e : TypeId) :
    ∃ G', G'.Le G' ∧ SRel G' h (w.alloc (.cells arr e)) ∧ Step G h w G' h (w.alloc (.cells arr e)) ∧ (∀ (i : Nat) u, arr[i]? = some u → G'.fr w.heap.size i = some u) ∧ G'.tk = G.tk := by
  have s1 := s.garbage (.cells arr e)
  have hle : G.Le (G.freeze w.heap.size (fun i => arr[i]?)) := Ghost.freeze_le (fun o v u _ h2 => absurd (s.fr_lt h2) (Nat.lt_irrefl _))
  refine ⟨G.freeze w.heap.size (fun i => arr[i]?), .refl _, s1.freezeAt _ _ ?_ ?_ ?_, ?_, ?_, rfl⟩
  · intro o v hv
    rw [World.cell?_alloc_new]; exact hv
  · intro b sb hb
    exact absurd (s.φ_lt hb) (Nat.lt_irrefl _)
  · intro t n cap sz ht hk
    exact absurd (s.own_lt (.inr (.inl ⟨t, n, cap, sz, ht, hk⟩))) (Nat.lt_irrefl _)
  · refine ⟨hle, rfl, rfl, rfl, by simp, fun c hc _ => heap_alloc_old w _ c hc, fun _ ho => .inl ho, rfl, ⟨fun _ _ h _ => h, Nat.le_refl _⟩, fun c o v hv => ?_⟩
    simp only [Ghost.freeze] at hv
    split at hv
    · rename_i e; exact .inr (.inl (by omega))
    · exact .inl hv
  · intro i u hu
    simp [Ghost.freeze, hu]

/-- a new abstract block -/
theorem SRel.alloc' (s : SRel G h w) {cs : List AV} {arr : Array Value} (e : TypeId) (hv : VRels G cs (arr.toList.take cs.length)) :
    ∃ G', SRel G' { h with blk := h.blk ++ [cs] } (w.alloc (.cells arr e)) ∧ Step G h w G' { h with blk := h.blk ++ [cs] } (w.alloc (.cells arr e)) ∧ G'.φ h.blk.length = some (w.heap.size, arr.size) := by
  let G' : Ghost := { G with φ := fun b => if b = h.blk.length then some (w.heap.size, arr.size) else G.φ b }
  have hle : G.Le G' := ⟨fun b c hb => by
    have := s.dom.φ b c hb
    show (if b = h.blk.length then _ else _) = _
    rw [if_neg (by omega)]; exact hb, fun _ _ _ h => h, fun _ _ _ h => h, fun _ _ h => h⟩
  have hold : ∀ b c, G'.φ b = some c → (b = h.blk.length ∧ c = (w.heap.size, arr.size)) ∨ G.φ b = some c := fun b c hb => by
    by_cases e : b = h.blk.length
    · left; refine ⟨e, ?_⟩; simp [G', e] at hb; exact hb.symm
    · right; simpa [G', e] using hb
  have hfresh : ∀ c, Own G h c → c ≠ w.heap.size := fun c ho => Nat.ne_of_lt (s.own_lt ho)
  refine ⟨G', ?_, ?_, by simp [G']⟩
  · refine ⟨⟨fun b c hb => ?_, s.dom.tk, s.dom.mp⟩, ?_, ?_, ?_, ?_, ?_, ?_, ?_, s.tkle, s.injtk, s.injmp, ?_⟩
    · rcases hold b c hb with ⟨rfl, _⟩ | hb
      · simp
      · have := s.dom.φ b c hb; simp; omega
    · intro b c hb
      rcases hold b c hb with ⟨rfl, rfl⟩ | hb
      · exact ⟨cs, arr, e, by simp, heap_alloc_new w _, rfl, VRels.mono hle _ _ hv⟩
      · obtain ⟨cs', arr', e', h1, h2, h2', h3⟩ := s.blk b c hb
        exact ⟨cs', arr', e', by rw [List.getElem?_append_left (s.dom.φ b c hb)]; exact h1, by rw [heap_alloc_old w _ c.1 (lt_of_get h2)]; exact h2, h2', VRels.mono hle _ _ h3⟩
    · intro t n ht
      obtain ⟨c, cap, size, cur, e', h1, h2, h3⟩ := s.tok t n ht
      exact ⟨c, cap, size, cur, e', h1, by rw [heap_alloc_old w _ c (lt_of_get h2)]; exact h2, h3⟩
    · intro m c hm
      obtain ⟨M, es, clock, h1, h2, h3⟩ := s.map m c hm
      exact ⟨M, es, clock, h1, by rw [heap_alloc_old w _ c (lt_of_get h2)]; exact h2, h3.mono hle⟩
    · intro c i v hf; rw [cell_alloc_lt (s.fr_lt hf)]; exact s.fr c i v hf
    · intro b b' c c' hb hb' he
      rcases hold b c hb with ⟨rfl, rfl⟩ | hb1
      · rcases hold b' c' hb' with ⟨rfl, _⟩ | hb2
        · exact .inl rfl
        · exact absurd (s.φ_lt hb2) (by rw [← he]; exact Nat.lt_irrefl _)
      · rcases hold b' c' hb' with ⟨_, rfl⟩ | hb2
        · exact absurd (s.φ_lt hb1) (by rw [he]; exact Nat.lt_irrefl _)
        · rcases s.injφ b b' c c' hb1 hb2 he with q | q | q
          · exact .inl q
          · exact .inr (.inl (by show (h.blk ++ [cs])[b]? = _; rw [List.getElem?_append_left (s.dom.φ _ _ hb1)]; exact q))
          · exact .inr (.inr (by show (h.blk ++ [cs])[b']? = _; rw [List.getElem?_append_left (s.dom.φ _ _ hb2)]; exact q))
    · intro b c o hb hl
      rcases hold b c hb with ⟨rfl, rfl⟩ | hb
      · cases hf : G.fr w.heap.size o with
        | none => rfl
        | some v => exact absurd (s.fr_lt hf) (Nat.lt_irrefl _)
      · exact s.φfr b c o hb (fun q => hl (by show (h.blk ++ [cs])[b]? = _; rw [List.getElem?_append_left (s.dom.φ _ _ hb)]; exact q))
    · intro b c t n cap sz hb ht hk
      rcases hold b c hb with ⟨rfl, rfl⟩ | hb
      · exact absurd (s.own_lt (.inr (.inl ⟨t, n, cap, sz, ht, hk⟩))) (Nat.lt_irrefl _)
      · exact s.φtk b c t n cap sz hb ht hk
    · intro β hβ
      obtain ⟨h1, h2, h3, h4⟩ := s.bases β hβ
      refine ⟨by simp; omega, h2, h3, fun b c cs' hφ hb hcs => ?_⟩
      have : b < h.blk.length := by omega
      rcases hold b c hφ with ⟨e1, _⟩ | hφ
      · omega
      refine h4 b c cs' hφ hb ?_
      simpa [List.getElem?_append_left this] using hcs
  · refine ⟨hle, rfl, rfl, rfl, by simp, fun c hc _ => heap_alloc_old w _ c hc, fun c ho => ?_, rfl, ⟨fun b c hb hl => (hold b c hb).resolve_left (fun e => by omega), by simp⟩, fun _ _ _ h => .inl h⟩
    rcases ho with ⟨b, sb, hb, hl⟩ | ho
    · rcases hold b _ hb with ⟨_, he⟩ | hb
      · cases he; exact .inr (Nat.le_refl _)
      · exact .inl (.inl ⟨b, sb, hb, by rw [List.getElem?_append_left (s.dom.φ _ _ hb)] at hl; exact hl⟩)
    · exact .inl (.inr ho)

theorem SRel.alloc (s : SRel G h w) {cs : List AV} {arr : Array Value} (e : TypeId) (hv0 : VRels G cs arr.toList) :
    ∃ G', SRel G' { h with blk := h.blk ++ [cs] } (w.alloc (.cells arr e)) ∧ Step G h w G' { h with blk := h.blk ++ [cs] } (w.alloc (.cells arr e)) ∧ G'.φ h.blk.length = some (w.heap.size, arr.size) :=
  s.alloc' e (by rw [hv0.length, List.take_length]; exact hv0)

/-- an abstract block is written -/
theorem SRel.write (s : SRel G h w) {b : Nat} {c : Nat × Nat} (hb : G.φ b = some c) (hne : h.blk[b]? ≠ some []) {arr : Array Value} {e : TypeId} (hh : w.heap[c.1]? = some (.cells arr e (0, 0))) {cs' : List AV} {arr' : Array Value} (hsz : arr'.size = arr.size) (hcs' : cs' ≠ [])
    (hv : VRels G cs' (arr'.toList.take cs'.length)) (hbs : ∀ β ∈ G.bases, b < β.1 → AV.bnds β.1 β.2.1 β.2.2 cs' = true) :
    SRel G { h with blk := h.blk.set b cs' } (w.setRow c.1 arr') ∧ Step G h w G { h with blk := h.blk.set b cs' } (w.setRow c.1 arr') := by
  have hoth : ∀ k, k ≠ c.1 → (w.setRow c.1 arr').heap[k]? = w.heap[k]? := fun k hk => setRow_other w c.1 k _ hk
  have hlt := s.dom.φ _ _ hb
  have hset : ∀ x, (h.blk.set b cs')[x]? = some [] → h.blk[x]? = some [] := fun x hx => by
    by_cases e1 : x = b
    · subst e1; rw [List.getElem?_set_self hlt] at hx; exact absurd (Option.some.inj hx) hcs'
    · rw [List.getElem?_set_ne (Ne.symm e1)] at hx; exact hx
  have hset' : ∀ x, h.blk[x]? = some [] → (h.blk.set b cs')[x]? = some [] := fun x hx => by
    by_cases e1 : x = b
    · subst e1; exact absurd hx hne
    · rw [List.getElem?_set_ne (Ne.symm e1)]; exact hx
  have hown : ∀ k, k = c.1 → ¬ (∃ t n cap sz, h.toks[t]? = some n ∧ G.tk t n = some (k, cap, sz)) := fun k hk ⟨t, n, cap, sz, ht, h2⟩ => by
    subst hk; exact s.φtk b c t n cap sz hb ht h2
  refine ⟨⟨⟨fun b' c' h' => by simpa using s.dom.φ b' c' h', s.dom.tk, s.dom.mp⟩, ?_, ?_, ?_, ?_, fun x x' y y' q1 q2 q3 => (s.injφ x x' y y' q1 q2 q3).imp id (Or.imp (hset' _) (hset' _)), fun x y o q1 q2 => s.φfr x y o q1 (fun q => q2 (hset' _ q)), s.φtk, s.tkle, s.injtk, s.injmp, ?_⟩, ?_⟩
  · intro b' c' hb'
    by_cases e1 : b' = b
    · subst e1
      rw [hb] at hb'; cases hb'
      obtain ⟨_, arr0, e0, _, g2, g3, _⟩ := s.blk b' _ hb
      rw [hh] at g2; cases g2
      exact ⟨cs', arr', e, by simp [List.getElem?_set, s.dom.φ _ _ hb], setRow_heap w _ arr _ e _ hh, by rw [hsz]; exact g3, hv⟩
    · obtain ⟨cs, arr1, e2, h1, h2, h2', h3⟩ := s.blk b' c' hb'
      by_cases e3 : c'.1 = c.1
      · rcases s.injφ b' b c' c hb' hb e3 with q | q | q
        · exact absurd q e1
        · rw [q] at h1; cases h1
          rw [e3, hh] at h2; cases h2
          exact ⟨[], arr', e, by rw [List.getElem?_set_ne (Ne.symm e1)]; exact q, by rw [e3]; exact setRow_heap w _ arr _ e _ hh, by rw [hsz]; exact h2', by simp [VRels]⟩
        · exact absurd q hne
      · refine ⟨cs, arr1, e2, by rw [List.getElem?_set_ne (Ne.symm e1)]; exact h1, ?_, h2', h3⟩
        rw [hoth c'.1 e3]; exact h2
  · intro t n ht
    obtain ⟨c', cap, size, cur, e', h1, h2, h3⟩ := s.tok t n ht
    refine ⟨c', cap, size, cur, e', h1, ?_, h3⟩
    rw [hoth c' (fun e3 => hown c' e3 ⟨t, n, cap, size, ht, h1⟩)]; exact h2
  · intro m c' hm
    obtain ⟨M, es, clock, h1, h2, h3⟩ := s.map m c' hm
    refine ⟨M, es, clock, h1, ?_, h3⟩
    rw [hoth c' (fun e3 => by subst e3; rw [hh] at h2; cases h2)]; exact h2
  · intro c' i v hf
    have hne : c' ≠ c.1 := fun e3 => by subst e3; rw [s.φfr b c i hb hne] at hf; cases hf
    rw [World.cell?_of_block (w := w) (a := ⟨c', i, none⟩) (hoth c' hne)]; exact s.fr c' i v hf
  · intro β hβ
    obtain ⟨h1, h2, h3, h4⟩ := s.bases β hβ
    refine ⟨by simpa using h1, h2, h3, fun b' c' cs hφ' hb' hcs => ?_⟩
    by_cases e1 : b' = b
    · subst e1
      simp [List.getElem?_set, s.dom.φ _ _ hb] at hcs
      subst hcs; exact hbs β hβ hb'
    · rw [List.getElem?_set_ne (Ne.symm e1)] at hcs; exact h4 b' c' cs hφ' hb' hcs
  · refine ⟨.refl G, rfl, rfl, rfl, by simp, fun k hk hno => hoth k (fun e3 => hno (.inl ⟨b, c.2, by rw [e3]; exact hb, hne⟩)), fun k ho => .inl (ho.imp (fun ⟨x, sx, q1, q2⟩ => ⟨x, sx, q1, fun q => q2 (hset' _ q)⟩) id), rfl, ⟨fun _ _ h _ => h, by simp⟩, fun _ _ _ h => .inl h⟩

theorem set_get {α : Type} {l : List α} {b x : Nat} {y : α} (hb : b < l.length) : (l.set b y)[x]? = if x = b then some y else l[x]? := by
  by_cases e : x = b
  · subst e; rw [if_pos rfl, List.getElem?_set_self hb]
  · rw [if_neg e, List.getElem?_set_ne (Ne.symm e)]

/-- a block that nothing will read again -/
theorem SRel.kill (s : SRel G h w) {b : Nat} {c : Nat × Nat} (hb : G.φ b = some c) : SRel G { h with blk := h.blk.set b [] } w ∧ Step G h w G { h with blk := h.blk.set b [] } w := by
  have hlt := s.dom.φ _ _ hb
  have hd : ∀ x, h.blk[x]? = some [] → (h.blk.set b [])[x]? = some [] := fun x hx => by rw [set_get hlt]; split <;> first | rfl | exact hx
  refine ⟨⟨⟨fun b' c' h' => by simpa using s.dom.φ b' c' h', s.dom.tk, s.dom.mp⟩, fun x y hx => ?_, s.tok, s.map, s.fr, fun x x' y y' q1 q2 q3 => (s.injφ x x' y y' q1 q2 q3).imp id (Or.imp (hd _) (hd _)), fun x y o q1 q2 => s.φfr x y o q1 (fun q => q2 (hd _ q)), s.φtk, s.tkle, s.injtk, s.injmp, fun β hβ => ?_⟩,
    .refl G, rfl, rfl, rfl, Nat.le_refl _, fun _ _ _ => rfl, fun k ho => .inl (ho.imp (fun ⟨x, sx, q1, q2⟩ => ⟨x, sx, q1, fun q => q2 (hd _ q)⟩) id), rfl, ⟨fun _ _ h _ => h, by simp⟩, fun _ _ _ h => .inl h⟩
  · obtain ⟨cs, arr, e, h1, h2, h3, h4⟩ := s.blk x y hx
    by_cases e1 : x = b
    · exact ⟨[], arr, e, by show (h.blk.set b [])[x]? = _; rw [set_get hlt, if_pos e1], h2, h3, by simp [VRels]⟩
    · exact ⟨cs, arr, e, by show (h.blk.set b [])[x]? = _; rw [set_get hlt, if_neg e1]; exact h1, h2, h3, h4⟩
  · obtain ⟨h1, h2, h3, h4⟩ := s.bases β hβ
    refine ⟨by simpa using h1, h2, h3, fun b' c' cs hφ' hb' hcs => ?_⟩
    have hcs : (h.blk.set b [])[b']? = some cs := hcs
    rw [set_get hlt] at hcs
    split at hcs
    · cases hcs; rfl
    · exact h4 b' c' cs hφ' hb' hcs

/-- a block that grows where it lies -/
theorem SRel.growIn (s : SRel G h w) {b : Nat} {c : Nat × Nat} (hb : G.φ b = some c) (hne : h.blk[b]? ≠ some []) {arr : Array Value} {e : TypeId} (hh : w.heap[c.1]? = some (.cells arr e (0, 0))) {cs' : List AV} {arr' : Array Value} (hsz : arr'.size = arr.size)
    (hv : VRels G cs' (arr'.toList.take cs'.length)) :
    ∃ G', SRel G' { h with blk := h.blk.set b [] ++ [cs'] } (w.setRow c.1 arr') ∧ Step G h w G' { h with blk := h.blk.set b [] ++ [cs'] } (w.setRow c.1 arr') ∧ G'.φ h.blk.length = some c := by
  have hlt := s.dom.φ _ _ hb
  have hoth : ∀ k, k ≠ c.1 → (w.setRow c.1 arr').heap[k]? = w.heap[k]? := fun k hk => setRow_other w c.1 k _ hk
  have hrow := setRow_heap w c.1 arr arr' e (0, 0) hh
  let G' : Ghost := { G with φ := fun x => if x = h.blk.length then some c else G.φ x }
  have hle : G.Le G' := ⟨fun x y hx => by
    have := s.dom.φ x y hx
    show (if x = h.blk.length then _ else _) = _
    rw [if_neg (by omega)]; exact hx, fun _ _ _ h => h, fun _ _ _ h => h, fun _ _ h => h⟩
  have hold : ∀ x y, G'.φ x = some y → (x = h.blk.length ∧ y = c) ∨ (x < h.blk.length ∧ G.φ x = some y) := fun x y hx => by
    by_cases e : x = h.blk.length
    · left; refine ⟨e, ?_⟩; simp [G', e] at hx; exact hx.symm
    · right
      have : G.φ x = some y := by simpa [G', e] using hx
      exact ⟨s.dom.φ _ _ this, this⟩
  have hget : ∀ x, x < h.blk.length → (h.blk.set b [] ++ [cs'])[x]? = if x = b then some [] else h.blk[x]? := fun x hx => by
    rw [List.getElem?_append_left (by simpa using hx), set_get hlt]
  have hnew : (h.blk.set b [] ++ [cs'])[h.blk.length]? = some cs' := by
    rw [List.getElem?_append_right (by simp)]; simp
  have hdead : ∀ x y, G.φ x = some y → y.1 = c.1 → x ≠ b → h.blk[x]? = some [] := fun x y hx hy hxb => by
    rcases s.injφ x b y c hx hb hy with q | q | q
    · exact absurd q hxb
    · exact q
    · exact absurd q hne
  have hown : ∀ k, k = c.1 → ¬ (∃ t n cap sz, h.toks[t]? = some n ∧ G.tk t n = some (k, cap, sz)) := fun k hk ⟨t, n, cap, sz, ht, h2⟩ => by
    subst hk; exact s.φtk b c t n cap sz hb ht h2
  obtain ⟨cs0, arr0, e0, _, g2, g3, _⟩ := s.blk b c hb
  rw [hh] at g2; cases g2
  refine ⟨G', ⟨⟨fun x y hx => ?_, s.dom.tk, s.dom.mp⟩, fun x y hx => ?_, fun t n ht => ?_, fun m x hm => ?_, fun x i v hf => ?_, fun x x' y y' hx hx' he => ?_, fun x y o hx hl => ?_, fun x y t n cap sz hx ht => ?_, s.tkle, s.injtk, s.injmp, fun β hβ => ?_⟩, ?_, by simp [G']⟩
  · rcases hold x y hx with ⟨rfl, _⟩ | ⟨h1, _⟩ <;> simp <;> omega
  · rcases hold x y hx with ⟨rfl, rfl⟩ | ⟨h1, hx⟩
    · exact ⟨cs', arr', e, hnew, hrow, by rw [hsz]; exact g3, VRels.mono hle _ _ hv⟩
    · obtain ⟨cs, arr1, e2, q1, q2, q3, q4⟩ := s.blk x y hx
      by_cases e1 : x = b
      · subst e1
        rw [hb] at hx; cases hx
        exact ⟨[], arr', e, by show (h.blk.set x [] ++ [cs'])[x]? = _; rw [hget x h1, if_pos rfl], hrow, by rw [hsz]; exact g3, by simp [VRels]⟩
      · by_cases e3 : y.1 = c.1
        · have := hdead x y hx e3 e1
          rw [e3, hh] at q2; cases q2
          exact ⟨[], arr', e, by show (h.blk.set b [] ++ [cs'])[x]? = _; rw [hget x h1, if_neg e1]; exact this, by rw [e3]; exact hrow, by rw [hsz]; exact q3, by simp [VRels]⟩
        · exact ⟨cs, arr1, e2, by show (h.blk.set b [] ++ [cs'])[x]? = _; rw [hget x h1, if_neg e1]; exact q1, by rw [hoth _ e3]; exact q2, q3, VRels.mono hle _ _ q4⟩
  · obtain ⟨c', cap, size, cur, e', h1, h2, h3⟩ := s.tok t n ht
    refine ⟨c', cap, size, cur, e', h1, ?_, h3⟩
    rw [hoth c' (fun e3 => hown c' e3 ⟨t, n, cap, size, ht, h1⟩)]; exact h2
  · obtain ⟨M, es, clock, h1, h2, h3⟩ := s.map m x hm
    refine ⟨M, es, clock, h1, ?_, h3.mono hle⟩
    rw [hoth x (fun e3 => by subst e3; rw [hh] at h2; cases h2)]; exact h2
  · have hne : x ≠ c.1 := fun e3 => by subst e3; rw [s.φfr b c i hb hne] at hf; cases hf
    rw [World.cell?_of_block (w := w) (a := ⟨x, i, none⟩) (hoth x hne)]; exact s.fr x i v hf
  · have dd : ∀ z zc, z < h.blk.length → G.φ z = some zc → zc.1 = c.1 → (h.blk.set b [] ++ [cs'])[z]? = some [] := fun z zc h1 h2 h3 => by
      rw [hget z h1]
      by_cases e1 : z = b
      · rw [if_pos e1]
      · rw [if_neg e1]; exact hdead z zc h2 h3 e1
    rcases hold x y hx with ⟨rfl, rfl⟩ | ⟨h1, hx1⟩
    · rcases hold x' y' hx' with ⟨rfl, _⟩ | ⟨h2, hx2⟩
      · exact .inl rfl
      · exact .inr (.inr (dd x' y' h2 hx2 he.symm))
    · rcases hold x' y' hx' with ⟨_, rfl⟩ | ⟨h2, hx2⟩
      · exact .inr (.inl (dd x y h1 hx1 he))
      · rcases s.injφ x x' y y' hx1 hx2 he with q | q | q
        · exact .inl q
        · refine .inr (.inl ?_)
          show (h.blk.set b [] ++ [cs'])[x]? = _
          rw [hget x h1]; split <;> first | rfl | exact q
        · refine .inr (.inr ?_)
          show (h.blk.set b [] ++ [cs'])[x']? = _
          rw [hget x' h2]; split <;> first | rfl | exact q
  · rcases hold x y hx with ⟨_, rfl⟩ | ⟨h1, hx⟩
    · exact s.φfr b _ o hb hne
    · refine s.φfr x y o hx (fun q => hl ?_)
      show (h.blk.set b [] ++ [cs'])[x]? = _
      rw [hget x h1]; split <;> first | rfl | exact q
  · rcases hold x y hx with ⟨_, rfl⟩ | ⟨_, hx⟩
    · exact s.φtk b _ t n cap sz hb ht
    · exact s.φtk x y t n cap sz hx ht
  · obtain ⟨h1, h2, h3, h4⟩ := s.bases β hβ
    refine ⟨by simp; omega, h2, h3, fun x y cs hx hb' hcs => ?_⟩
    rcases hold x y hx with ⟨rfl, _⟩ | ⟨h5, hx⟩
    · omega
    · have hcs : (h.blk.set b [] ++ [cs'])[x]? = some cs := hcs
      rw [hget x h5] at hcs
      split at hcs
      · cases hcs; rfl
      · exact h4 x y cs hx hb' hcs
  · refine ⟨hle, rfl, rfl, rfl, by simp, fun k hk hno => hoth k (fun e3 => hno (.inl ⟨b, c.2, by rw [e3]; exact hb, hne⟩)), fun k ho => .inl ?_, rfl, ⟨fun x y hx hl => ((hold x y hx).resolve_left fun q => by omega).2, by simp⟩, fun _ _ _ h => .inl h⟩
    rcases ho with ⟨x, sx, hx, hlive⟩ | ho
    · rcases hold x _ hx with ⟨_, q⟩ | ⟨h1, hx⟩
      · exact .inl ⟨b, c.2, by rw [hb, ← q], hne⟩
      · refine .inl ⟨x, sx, hx, fun q => hlive ?_⟩
        show (h.blk.set b [] ++ [cs'])[x]? = _
        rw [hget x h1]; split <;> first | rfl | exact q
    · exact .inr ho
end Go.VM
end
section
/- The abstract operations. -/
namespace Go.VM
set_option linter.unusedSectionVars false
variable [Inhabited Globs]

def ofConst1 : Value → AV
  | .bool b => .bool b
  | .int k n => .int k n
  | .string s => .str s
  | .pointer none => .nilP
  | .map none => .nilM
  | .nilFunc => .nilF
  | .nilIface => .nilI
  | .slice none 0 0 => .sl [] 0 .nil
  | _ => .top
def ofConst : Value → AV
  | .agg cs => .agg (cs.toList.map ofConst1)
  | .tuple ⟨[]⟩ => .tup []
  | v => ofConst1 v

def aev (A : List AV) : Operand → AV
  | .tmp t => A.getD t .undef
  | .const v => ofConst v
  | .global g => match globs g with
    | [] => .top
    | v :: vs => .cptr ((v :: vs).map ofConst1)
  | .func f => .fn (.func f) [] []

def AV.cells? : AV → Option (List AV)
  | .top | .tup _ => none
  | .agg cs => some cs
  | a => some [a]

def isAggT (P : Program) (t : TypeId) : Bool :=
  match P.underlying t with
  | some (.struct _) | some (.array _ _) => true
  | _ => false
def sizeT (P : Program) (t : TypeId) : Option Nat := (P.info? t).map (·.size)

/-- what a variable of type t reads as, its cells standing at the head of the list -/
def aLoad (P : Program) (t : TypeId) (cs : List AV) : Option AV :=
  match P.underlying t with
  | none => none
  | some _ =>
    if isAggT P t then
      match sizeT P t with
      | some n => if n ≤ cs.length then some (.agg (cs.take n)) else none
      | none => none
    else cs[0]?

def H.target (h : H) : AV → Option (List AV)
  | .ptr b o => (h.blk[b]?).map (·.drop o)
  | .cptr cs => some cs
  | _ => none

structure Base where
  nb : Nat
  nt : Nat
  nm : Nat

def putAt (old : List AV) (o : Nat) (cs : List AV) : List AV := old.take o ++ cs ++ old.drop (o + cs.length)

def aStore (P : Program) (β : Base) (t : TypeId) (p v : AV) (h : H) : Option H :=
  match p, v.cells?, sizeT P t with
  | .ptr b o, some cs, some n =>
    match h.blk[b]? with
    | some old =>
      if cs.length = n && decide (o + cs.length ≤ old.length) && cs.all AV.one && (decide (β.nb ≤ b) || AV.bnds (b + 1) 0 0 cs) then some { h with blk := h.blk.set b (putAt old o cs) } else none
    | none => none
  | _, _, _ => none

/-- the plain cells that a comparable type consists of -/
inductive Kd where
  | bool | int | str
  deriving DecidableEq
def flatStep (P : Program) (fl : TypeId → Option (List Kd)) (acc : Option (List Kd)) (f : Field) : Option (List Kd) :=
  match acc, fl f.type with
  | some l, some m => if f.name ≠ "_" ∧ f.offset = l.length ∧ sizeT P f.type = some m.length ∧ (P.info? f.type).isSome then some (l ++ m) else none
  | _, _ => none
def flat (P : Program) : Nat → TypeId → Option (List Kd)
  | 0, _ => none
  | d + 1, t =>
    match P.underlying t with
    | some .bool => some [.bool]
    | some (.int _) => some [.int]
    | some .string => some [.str]
    | some (.struct fs) =>
      if P.stoodInHeld t then none
      else fs.toList.foldl (flatStep P fun t => flat P d t) (some [])
    | some (.array n e) =>
      match flat P d e with
      | some m => if sizeT P e = some m.length then some (List.replicate n m).flatten else none
      | none => none
    | _ => none

def eq1 : Kd → AV → AV → Option Bool
  | .bool, .bool a, .bool b => some (a == b)
  | .int, .int k a, .int k' b => if k = k' then some (a == b) else none
  | .str, .str a, .str b => some (a == b)
  | _, _, _ => none
def eqs : List Kd → List AV → List AV → Option Bool
  | [], [], [] => some true
  | k :: ks, x :: xs, y :: ys =>
    match eq1 k x y, eqs ks xs ys with
    | some a, some b => some (a && b)
    | _, _ => none
  | _, _, _ => none
def AV.isAgg : AV → Bool
  | .agg _ => true
  | _ => false
/-- equality at a type -/
def aEq (P : Program) (t : TypeId) (x y : AV) : Option Bool :=
  match flat P 20 t, x.cells?, y.cells? with
  | some ks, some xs, some ys => if isAggT P t = x.isAgg ∧ isAggT P t = y.isAgg then eqs ks xs ys else none
  | _, _, _ => none

def aIntOp (op : BinOp) (k : IntKind) (a b : Int) : Option AV :=
  match op with
  | .add => some (.int k (k.wrap (a + b)))
  | .sub => some (.int k (k.wrap (a - b)))
  | .mul => some (.int k (k.wrap (a * b)))
  | .quo => if b = 0 then none else some (.int k (k.wrap (a.tdiv b)))
  | .rem => if b = 0 then none else some (.int k (a.tmod b))
  | .eql => some (.bool (a == b))
  | .neq => some (.bool (a != b))
  | .lss => some (.bool (decide (a < b)))
  | .leq => some (.bool (decide (a ≤ b)))
  | .gtr => some (.bool (decide (a > b)))
  | .geq => some (.bool (decide (a ≥ b)))
  | .and => some (.int k (k.wrap (BitVec.ofInt k.bits a &&& BitVec.ofInt k.bits b).toNat))
  | .or => some (.int k (k.wrap (BitVec.ofInt k.bits a ||| BitVec.ofInt k.bits b).toNat))
  | .xor => some (.int k (k.wrap (BitVec.ofInt k.bits a ^^^ BitVec.ofInt k.bits b).toNat))
  | .andNot => some (.int k (k.wrap (BitVec.ofInt k.bits a &&& ~~~BitVec.ofInt k.bits b).toNat))
  | .shl | .shr => none
def aShift (op : BinOp) (k : IntKind) (x y : Int) : Option AV :=
  if y < 0 then none
  else match op with
    | .shl => some (.int k (k.wrap (x * 2 ^ (min y.toNat k.bits))))
    | .shr => some (.int k (x.fdiv (2 ^ (min y.toNat k.bits))))
    | _ => none

def isBoolT (P : Program) (t : TypeId) : Bool :=
  match P.underlying t with
  | some .bool => true
  | _ => false
def isSliceT (P : Program) (t : TypeId) : Bool :=
  match P.underlying t with
  | some (.slice _) => true
  | _ => false
def eqOnly (op : BinOp) (b : Bool) : Option AV :=
  match op with
  | .eql => some (.bool b)
  | .neq => some (.bool (!b))
  | _ => none

def aBin (P : Program) (op : BinOp) (t : TypeId) (x y : AV) : Option AV :=
  match x, y with
  | .int k a, .int k' b => if op = .shl ∨ op = .shr then aShift op k a b else if k = k' then aIntOp op k a b else none
  | .bool a, .bool b => if isBoolT P t then eqOnly op (a == b) else none
  | .str a, .str b => eqOnly op (a.toList == b.toList)
  | .agg xs, .agg ys => if P.eqGuardType P.depth t then none else (aEq P t (.agg xs) (.agg ys)).bind (eqOnly op)
  | .sl _ _ r, .sl _ _ r' => if isSliceT P t && (r == .nil || r' == .nil) then eqOnly op (r == .nil && r' == .nil) else none
  | _, _ => none

def aUn (op : UnOp) (x : AV) : Option AV :=
  match op, x with
  | .not, .bool b => some (.bool !b)
  | .neg, .int k n => some (.int k (k.wrap (0 - n)))
  | _, _ => none

def afill (place : Nat → Option (Nat × Nat)) (cs : List AV) : List (Nat × AV) → Option (List AV)
  | [] => some cs
  | (i, v) :: rest =>
    match place i, v.cells? with
    | some (off, size), some vc => if vc.length ≠ size ∨ off + vc.length > cs.length then none else afill place (putAt cs off vc) rest
    | _, _ => none

def zeroCs (P : Program) (t : TypeId) : Option (List AV) :=
  match P.info? t with
  | some i => match i.zero with
    | some z => (ofConst z).cells?
    | none => none
  | none => none

def aBuild (P : Program) (t : TypeId) (parts : List (Nat × AV)) : Option AV :=
  match zeroCs P t, P.underlying t with
  | some z, some (.struct fs) =>
    if fs.toList.all (fun f => (P.info? f.type).isSome) then
      (afill (fun i => (fs.toList[i]?).map fun f => (f.offset, (sizeT P f.type).getD 0)) z parts).map .agg
    else none
  | some z, some (.array _ e) =>
    match sizeT P e with
    | some n => (afill (fun i => some (i * n, n)) z parts).map .agg
    | none => none
  | _, _ => none

def elemT (P : Program) (t : TypeId) : Option TypeId :=
  match P.underlying t with
  | some (.slice e) => some e
  | _ => none

def aBuildSlice (P : Program) (t : TypeId) (len : Nat) (parts : List (Nat × AV)) : Option AV :=
  match elemT P t with
  | some e =>
    match sizeT P e, zeroCs P e with
    | some n, some z =>
      if z.length = n ∧ 0 < n ∧ len * n ≤ 2 ^ 24 then
        (afill (fun i => some (i * n, n)) (List.replicate len z).flatten parts).map fun cs => .sl cs len .full
      else none
    | _, _ => none
  | none => none

def aMake (P : Program) (t : TypeId) (l c : Int) (h : H) : Option (AV × H) :=
  match elemT P t with
  | some e =>
    match P.info? e, zeroCs P e with
    | some i, some z =>
      if z.length = i.size ∧ 0 < i.size ∧ 0 ≤ l ∧ l ≤ c ∧ i.bytes * c ≤ 2 ^ 48 ∧ c ≤ (maxLen : Int) then
        some (.msl h.blk.length 0 l.toNat c.toNat i.size, { h with blk := h.blk ++ [(List.replicate c.toNat z).flatten] })
      else none
    | _, _ => none
  | none => none

def intOf? : Option AV → Option (Option Int)
  | none => some none
  | some (.int _ n) => some (some n)
  | _ => none

/-- the bounds of a slice expression: len, what the capacity is known to be at least, and the three bounds (m: none where there is no max) -/
def aBounds (len : Nat) (lo hi : Option Int) : Option (Nat × Nat) :=
  match lo.getD 0, hi.getD len with
  | l, h => if 0 ≤ l ∧ l ≤ h ∧ h ≤ len then some (l.toNat, h.toNat) else none

def aSlice (P : Program) (t : TypeId) (x : AV) (lo hi mx : Option AV) (h : H) : Option AV :=
  match intOf? lo, intOf? hi, intOf? mx with
  | some lo, some hi, some mx =>
    match x with
    | .sl cs n r =>
      match elemT P t with
      | some e =>
        match sizeT P e, aBounds n lo hi with
        | some z, some (l, k) =>
          match mx with
          | none =>
            if r = .nil then (if l = 0 ∧ k = 0 then some (.sl [] 0 .nil) else none)
            else some (.sl ((cs.drop (l * z)).take ((k - l) * z)) (k - l) (if l = 0 ∧ k = n then r else if r = .full ∧ k = n then .full else .no))
          | some m => if r = .nil then (if l = 0 ∧ k = 0 ∧ m = 0 ∧ hi.isSome then some (.sl [] 0 .nil) else none) else if (r ≠ .nil ∧ r ≠ .e) ∧ hi.isSome ∧ (k : Int) ≤ m ∧ m ≤ n then some (.sl ((cs.drop (l * z)).take ((k - l) * z)) (k - l) (if m = k then .full else .no)) else none
        | _, _ => none
      | none => none
    | .msl b o n cap z0 =>
      match elemT P t with
      | some e =>
        match sizeT P e with
        | some z =>
          if cap = noCap ∧ z0 ≠ z then none else
          match mx with
          | none =>
            if cap = noCap then
              match aBounds n lo hi with
              | some (l, k) => if l = 0 then some (.msl b o k noCap z) else if l < n then some (.msl b (o + l * z) (k - l) noCap z) else some (.sl [] 0 .no)
              | none => none
            else
              match aBounds (if hi.isSome then cap else n) lo (some (hi.getD n)) with
              | some (l, k) => some (.msl b (if cap = l then o else o + l * z) (k - l) (cap - l) z)
              | none => none
          | some m =>
            match aBounds n lo hi with
            | some (l, k) => if hi.isSome ∧ (k : Int) ≤ m ∧ m ≤ n then some (.msl b (if m.toNat = l then o else o + l * z) (k - l) (m.toNat - l) z) else none
            | none => none
        | none => none
      | none => none
    | .ptr b o =>
      match P.underlying t, mx with
      | some (.array n e), none =>
        match sizeT P e, aBounds n lo hi with
        | some z, some (l, k) => if n ≤ maxLen then some (.msl b (if n = l then o else o + l * z) (k - l) (n - l) z) else none
        | _, _ => none
      | _, _ => none
    | .str s =>
      match P.underlying t, mx, aBounds s.size lo hi with
      | some .string, none, some (l, k) => some (.str (s.extract l k))
      | _, _, _ => none
    | _ => none
  | _, _, _ => none

def aIndexAddr (P : Program) (t : TypeId) (x ix : AV) : Option AV :=
  match ix with
  | .int _ i =>
    if 0 ≤ i then
      match x, P.underlying t with
      | .sl cs n r, some (.slice e) => match sizeT P e with
        | some z => if i < n ∧ r ≠ .nil then some (.cptr (cs.drop (i.toNat * z))) else none
        | none => none
      | .msl b o n _ _, some (.slice e) => match sizeT P e with
        | some z => if i < n then some (.ptr b (o + i.toNat * z)) else none
        | none => none
      | .ptr b o, some (.array n e) => match sizeT P e with
        | some z => if i < n then some (.ptr b (o + i.toNat * z)) else none
        | none => none
      | .cptr cs, some (.array n e) => match sizeT P e with
        | some z => if i < n then some (.cptr (cs.drop (i.toNat * z))) else none
        | none => none
      | _, _ => none
    else none
  | _ => none

def aIndex (P : Program) (t : TypeId) (x ix : AV) : Option AV :=
  match ix, x, P.underlying t with
  | .int _ i, .agg cs, some (.array n e) => match sizeT P e with
    | some z => if 0 ≤ i ∧ i < n then aLoad P e (cs.drop (i.toNat * z)) else none
    | none => none
  | .int _ i, .str s, some .string => if 0 ≤ i ∧ i < s.size then some (.int .u8 (s[i.toNat]!).toNat) else none
  | _, _, _ => none

def fieldT (P : Program) (t : TypeId) (f : Nat) : Option Field :=
  match P.underlying t with
  | some (.struct fs) => fs[f]?
  | _ => none

def aFieldAddr (P : Program) (t : TypeId) (x : AV) (f : Nat) : Option AV :=
  match fieldT P t f with
  | some fd =>
    match sizeT P fd.type with
    | some z => if z = 0 then none else
      match x with
      | .ptr b o => some (.ptr b (o + fd.offset))
      | .cptr cs => some (.cptr (cs.drop fd.offset))
      | _ => none
    | none => none
  | none => none

def aField (P : Program) (t : TypeId) (x : AV) (f : Nat) : Option AV :=
  match fieldT P t f, x with
  | some fd, .agg cs => aLoad P fd.type (cs.drop fd.offset)
  | _, _ => none

def aConvert (P : Program) (src dst : TypeId) (x : AV) : Option AV :=
  match P.underlying src, P.underlying dst, x with
  | some _, some (.int k), .int _ n => some (.int k (k.wrap n))
  | _, _, _ => none

def mapT (P : Program) (t : TypeId) : Option (TypeId × TypeId) :=
  match P.underlying t with
  | some (.map k e) => some (k, e)
  | _ => none

def keyIs (P : Program) (kt : TypeId) (k : AV) (kv : AV × AV) : Bool := aEq P kt k kv.1 == some true
def keyOk (P : Program) (kt : TypeId) (k : AV) (M : List (AV × AV)) : Bool := (aEq P kt k k == some true) && k.key && M.all fun kv => (aEq P kt k kv.1).isSome
def mfind (P : Program) (kt : TypeId) (k : AV) (M : List (AV × AV)) : Option AV := (M.find? (keyIs P kt k)).map (·.2)
def mput (P : Program) (kt : TypeId) (k v : AV) (M : List (AV × AV)) : List (AV × AV) :=
  if M.any (keyIs P kt k) then M.map fun kv => if keyIs P kt k kv then (k, v) else kv else M ++ [(k, v)]

def H.theMap (h : H) : AV → Option (List (AV × AV))
  | .nilM => some []
  | .map i => h.maps[i]?
  | _ => none

def zeroA (P : Program) (t : TypeId) : Option AV :=
  match P.info? t with
  | some i => match i.zero with
    | some z => some (ofConst z)
    | none => none
  | none => none

def aLookup (P : Program) (t : TypeId) (m k : AV) (ok : Bool) (h : H) : Option AV :=
  match mapT P t, h.theMap m with
  | some (kt, et), some M =>
    match zeroA P et with
    | some z =>
      if keyOk P kt k M then
        match mfind P kt k M with
        | some v => some (if ok then .tup [v, .bool true] else v)
        | none => some (if ok then .tup [z, .bool false] else z)
      else none
    | none => none
  | _, _ => none

def aMapUpdate (P : Program) (t : TypeId) (m k v : AV) (h : H) : Option H :=
  match mapT P t, m with
  | some (kt, _), .map i =>
    match h.maps[i]? with
    | some M => if keyOk P kt k M && v.bnd 0 0 0 then some { h with maps := h.maps.set i (mput P kt k v M) } else none
    | none => none
  | _, _ => none

def aLen (P : Program) (t : TypeId) (x : AV) (h : H) : Option AV :=
  match P.underlying t, x with
  | some .string, .str s => some (.int .i64 s.size)
  | some (.array n _), _ => some (.int .i64 n)
  | some (.slice _), .sl _ n _ => some (.int .i64 n)
  | some (.slice _), .msl _ _ n _ _ => some (.int .i64 n)
  | some (.map _ _), .nilM => some (.int .i64 0)
  | some (.map _ _), .map m => (h.maps[m]?).map fun M => .int .i64 M.length
  | _, _ => none

def pick2 (mx : Bool) (x y : Int) : Int := if mx then (if y > x then y else x) else (if y < x then y else x)
def minOf (mx : Bool) (k : IntKind) : Int → List AV → Option Int
  | x, [] => some x
  | x, .int k' y :: rest => if k = k' then minOf mx k (pick2 mx x y) rest else none
  | _, _ => none
def aMin (mx : Bool) : List AV → Option AV
  | .int k x :: rest => (minOf mx k x rest).map (AV.int k)
  | _ => none

/-- what a slice holds: its cells -/
def slCells (h : H) (z : Nat) : AV → Option (List AV × Nat)
  | .sl cs n _ => some (cs, n)
  | .msl b o n _ _ => match h.blk[b]? with
    | some old => if o + n * z ≤ old.length then some ((old.drop o).take (n * z), n) else none
    | none => none
  | _ => none

def aAppend (P : Program) (t t' : TypeId) (x y : AV) (h : H) : Option (AV × H) :=
  if t ≠ t' then none else
  match elemT P t with
  | some e =>
    match P.info? e, zeroCs P e with
    | some i, some z =>
      match slCells h i.size y, x with
      | some (ys, m), .msl b o n cap z0 =>
        match h.blk[b]? with
        | some cs =>
          if z.length = i.size ∧ 0 < i.size ∧ ys.length = m * i.size ∧ ys.all AV.one ∧ (n + m) * i.bytes ≤ 2 ^ 47 ∧ n + m ≤ maxLen ∧ 0 < m ∧ z0 = i.size then
            if cap = noCap then
              if o = 0 ∧ cs.length = n * i.size ∧ 0 < n then some (.msl h.blk.length 0 (n + m) noCap i.size, { h with blk := h.blk.set b [] ++ [cs ++ ys] })
              else if o = 0 ∧ n * i.size < cs.length then some (.msl h.blk.length 0 (n + m) noCap i.size, { h with blk := h.blk.set b [] ++ [cs.take (n * i.size) ++ ys] }) else none
            else if cap < n + m ∧ o + n * i.size ≤ cs.length then some (.msl h.blk.length 0 (n + m) noCap i.size, { h with blk := h.blk ++ [(cs.drop o).take (n * i.size) ++ ys] })
            else none
          else none
        | none => none
      | some (ys, m), .sl xs n r =>
        if z.length = i.size ∧ 0 < i.size ∧ ys.length = m * i.size ∧ xs.length = n * i.size ∧ ys.all AV.one ∧ (n + m) * i.bytes ≤ 2 ^ 47 ∧ n + m ≤ maxLen then
          if m = 0 then some (x, h) else
          match r with
          | .nil | .full => if appW t = true then some (.msl h.blk.length 0 (n + m) noCap i.size, { h with blk := h.blk ++ [xs ++ ys] }) else some (.sl (xs ++ ys) (n + m) (.tok h.toks.length i.size), { h with toks := h.toks ++ [n + m] })
          | .tok k z => if h.toks[k]? = some n ∧ z = i.size then some (.sl (xs ++ ys) (n + m) (.tok k i.size), { h with toks := h.toks.set k (n + m) }) else none
          | .no | .e => none
        else none
      | _, _ => none
    | _, _ => none
  | none => none

/-- copy: as many elements as the shorter of the two has -/
def aCopy (P : Program) (β : Base) (t : TypeId) (x y : AV) (h : H) : Option (AV × H) :=
  match elemT P t with
  | some e =>
    match sizeT P e with
    | some z =>
      match x, slCells h z y with
      | .msl b o n _ _, some (ys, m) =>
        match h.blk[b]? with
        | some old =>
          if ys.length = m * z && decide (o + min m n * z ≤ old.length) && (ys.take (min m n * z)).all AV.one && (decide (β.nb ≤ b) || AV.bnds (b + 1) 0 0 (ys.take (min m n * z))) then
            some (.int .i64 (min m n : Nat), { h with blk := h.blk.set b (putAt old o (ys.take (min m n * z))) })
          else none
        | none => none
      | _, _ => none
    | none => none
  | none => none

abbrev Summ := FuncId → List AV → H → Option (AV × H)

def aCall (S : Summ) (f : AV) (args : List AV) (h : H) : Option (AV × H) :=
  match f with
  | .fn (.func i) first cap => S i (first ++ args ++ cap) h
  | _ => none

/-- one operation: its value, the heap behind it -/
def aop (P : Program) (S : Summ) (β : Base) (o : Oper) (A : List AV) (h : H) : Option (AV × H) :=
  let ρ := aev A
  let v (x : Option AV) : Option (AV × H) := x.map fun x => (x, h)
  let u (x : Option H) : Option (AV × H) := x.map fun h => (.undef, h)
  match o.op with
  | .move x | .assign x => some (ρ x, h)
  | .pick c a b => match ρ c with | .bool t => some (if t then ρ a else ρ b, h) | _ => none
  | .alloc e => (zeroCs P e).map fun z => (.ptr h.blk.length 0, { h with blk := h.blk ++ [z] })
  | .box _ x => ((ρ x).cells?).map fun z => (.ptr h.blk.length 0, { h with blk := h.blk ++ [z] })
  | .build t parts => v (aBuild P t (parts.toList.map fun (i, x) => (i, ρ x)))
  | .buildSlice t len parts => v (aBuildSlice P t len (parts.toList.map fun (i, x) => (i, ρ x)))
  | .load t a => match h.target (ρ a) with | some cs => v (aLoad P t cs) | none => none
  | .store t a x => u (aStore P β t (ρ a) (ρ x) h)
  | .nilCheck x => match ρ x with | .ptr b k => some (.ptr b k, h) | .cptr cs => some (.cptr cs, h) | _ => none
  | .binOp op t x y _ => v (aBin P op t (ρ x) (ρ y))
  | .unOp op _ x => v (aUn op (ρ x))
  | .convert src dst x => v (aConvert P src dst (ρ x))
  | .makeMap t r => match mapT P t, intOf? (r.map ρ) with | some _, some _ => some (.map h.maps.length, { h with maps := h.maps ++ [[]] }) | _, _ => none
  | .makeSlice t l c => match ρ l, ρ c with | .int .i64 l, .int .i64 c => aMake P t l c h | _, _ => none
  | .slice t x lo hi mx => v (aSlice P t (ρ x) (lo.map ρ) (hi.map ρ) (mx.map ρ) h)
  | .fieldAddr t x f => v (aFieldAddr P t (ρ x) f)
  | .field t x f => v (aField P t (ρ x) f)
  | .indexAddr t x ix => v (aIndexAddr P t (ρ x) (ρ ix))
  | .index t x ix => v (aIndex P t (ρ x) (ρ ix))
  | .lookup t x ix ok => v (aLookup P t (ρ x) (ρ ix) ok h)
  | .mapUpdate t m k x | .insert t m k x => u (aMapUpdate P t (ρ m) (ρ k) (ρ x) h)
  | .extract t i => match ρ t with | .tup vs => v vs[i]? | _ => none
  | .makeFunc f a b => some (.fn f (a.toList.map ρ) (b.toList.map ρ), h)
  | .call c =>
    match c.callee with
    | .value f => aCall S (ρ f) (c.args.toList.map ρ) h
    | .builtin b =>
      match b, c.args.toList.map ρ, c.argTypes.toList with
      | .len, [x], t :: _ => v (aLen P t x h)
      | .min, xs, _ => v (aMin false xs)
      | .max, xs, _ => v (aMin true xs)
      | .append, [x, y], [t, t'] => aAppend P t t' x y h
      | .copy, [x, y], [t, _] => aCopy P β t x y h
      | _, _, _ => none
    | _ => none
  | _ => none
end Go.VM
end
section
/- The abstract operations are right: the plain ones. -/
namespace Go.VM
set_option linter.unusedSectionVars false
variable [Inhabited Globs]

theorem ofConst1_rel (G : Ghost) (v : Value) : VRel G (ofConst1 v) v := by
  unfold ofConst1
  split <;> simp [VRel]
theorem ofConst1_rels (G : Ghost) : ∀ vs : List Value, VRels G (vs.map ofConst1) vs
  | [] => by simp [VRels]
  | v :: vs => by simp only [List.map_cons, VRels]; exact ⟨v, vs, rfl, ofConst1_rel G v, ofConst1_rels G vs⟩
theorem ofConst_rel (G : Ghost) (v : Value) : VRel G (ofConst v) v := by
  unfold ofConst
  split
  · rename_i cs; simp only [VRel]; exact ⟨cs, rfl, ofConst1_rels G _⟩
  · simp [VRel, VRels]
  · exact ofConst1_rel G v

theorem cells_rel {G : Ghost} {a : AV} {v : Value} (h : VRel G a v) {cs : List AV} (hc : a.cells? = some cs) : VRels G cs v.cells.toList := by
  have one : ∀ {a : AV}, VRel G a v → a.one = true → VRels G [a] v.cells.toList := fun {a} h ha => by
    have h1 := h.one ha
    have : v.cells = #[v] := by cases v <;> simp_all [Value.cells, Value.oneCell']
    rw [this]; simp only [VRels]; exact ⟨v, [], rfl, h, rfl⟩
  cases a <;> simp only [AV.cells?, Option.some.injEq, reduceCtorEq] at hc <;> first
    | (subst hc; exact one h rfl)
    | (subst hc; simp only [VRel] at h; obtain ⟨vs, rfl, hs⟩ := h; exact hs)

structure ARel (G : Ghost) (A : List AV) (a : Act) : Prop where
  tmps : VRels G A a.tmps.toList
  defers : a.defers = []
  gl : GlobOk G

theorem ARel.mono {G G' : Ghost} (h : G.Le G') {A : List AV} {a : Act} (r : ARel G A a) : ARel G' A a := ⟨VRels.mono h _ _ r.tmps, r.defers, r.gl.mono h⟩

theorem aev_rel {G : Ghost} {A : List AV} {a : Act} (r : ARel G A a) (x : Operand) : VRel G (aev A x) (a.eval x) := by
  cases x with
  | tmp t =>
    simp only [aev, Act.eval]
    by_cases ht : t < A.length
    · obtain ⟨u, hu, hr⟩ := r.tmps.get t A[t] (by simp)
      have : a.tmps[t]? = some u := by simpa using hu
      simp only [List.getD, List.getElem?_eq_getElem ht, Option.getD_some, Array.getD_eq_getD_getElem?, this]
      exact hr
    · have hl : A.length = a.tmps.size := by simpa using r.tmps.length
      simp only [List.getD, List.getElem?_eq_none (Nat.le_of_not_lt ht), Option.getD_none, Array.getD_eq_getD_getElem?]
      rw [Array.getElem?_eq_none (hl ▸ Nat.le_of_not_lt ht)]
      simp [VRel, VRels, undef, AV.undef]
  | const v => exact ofConst_rel G v
  | global g =>
    simp only [aev, Act.eval]
    split
    · simp [VRel]
    · rename_i v vs hg
      simp only [VRel]
      exact ⟨g, 0, v :: vs, rfl, ofConst1_rels G _, fun i u hu => by rw [Nat.zero_add]; exact r.gl g i u (by rw [hg]; exact hu)⟩
  | func f => simp [aev, Act.eval, VRel, VRels]

def putA (A : List AV) (dst : Option Tmp) (v : AV) : List AV :=
  match dst with
  | some d => A.set d v
  | none => A

theorem put_rel {G : Ghost} {A : List AV} {a : Act} (r : ARel G A a) {v : AV} {u : Value} (h : VRel G v u) (dst : Option Tmp) : ARel G (putA A dst v) (a.put dst u) := by
  cases dst with
  | none => exact r
  | some d =>
    refine ⟨?_, r.defers, r.gl⟩
    simp only [putA, Act.put, Array.toList_setIfInBounds]
    exact r.tmps.set d h

theorem rels_map {G : Ghost} {A : List AV} {a : Act} (r : ARel G A a) : ∀ xs : List Operand, VRels G (xs.map (aev A)) (xs.map a.eval)
  | [] => by simp [VRels]
  | x :: xs => by simp only [List.map_cons, VRels]; exact ⟨_, _, rfl, aev_rel r x, rels_map r xs⟩

/-- what one run of the model's text comes to -/
def RunOk (P : Program) (G : Ghost) (h : H) (w : World) (x : Sem Value) (v : AV) (h' : H) : Prop :=
  ∃ u w' G', x.run P w = .ok u w' ∧ Step G h w G' h' w' ∧ SRel G' h' w' ∧ VRel G' v u

/-- one that leaves the world alone -/
theorem RunOk.quiet {P : Program} {G : Ghost} {h : H} {w : World} {x : Sem Value} {v : AV} (s : SRel G h w) {u : Value} (hr : x.run P w = .ok u w) (hv : VRel G v u) : RunOk P G h w x v h :=
  ⟨u, w, G, hr, .refl _ _ _, s, hv⟩

section
variable {P : Program} {G : Ghost} {h : H} {w : World}

theorem run_typeInfo {t : TypeId} {i : TypeInfo} (hi : P.info? t = some i) : (typeInfo t).run P w = .ok i w := by simp [typeInfo, hi]
theorem run_sizeOf {t : TypeId} {i : TypeInfo} (hi : P.info? t = some i) : (sizeOf t).run P w = .ok i.size w := by simp [sizeOf, typeInfo, hi]
theorem run_sizeT {t : TypeId} {n : Nat} (hi : sizeT P t = some n) : (sizeOf t).run P w = .ok n w := by
  simp only [sizeT, Option.map_eq_some_iff] at hi
  obtain ⟨i, h1, h2⟩ := hi
  rw [run_sizeOf h1, h2]
theorem run_isAgg {t : TypeId} {d : TypeDesc} (hd : P.underlying t = some d) : (isAgg t).run P w = .ok (isAggT P t) w := by
  simp only [isAgg, isAggT, hd, Sem.run_bind, run_underlying hd, Result.andThen_ok]
  cases d <;> rfl
theorem run_zero {t : TypeId} {z : List AV} (hz : zeroCs P t = some z) : ∃ i v, P.info? t = some i ∧ i.zero = some v ∧ (zeroValue t).run P w = .ok v w ∧ ∀ G, VRels G z v.cells.toList := by
  simp only [zeroCs] at hz
  split at hz
  · rename_i i hi
    split at hz
    · rename_i v hv
      exact ⟨i, v, hi, hv, by simp [zeroValue, typeInfo, hi, hv], fun G => cells_rel (ofConst_rel G v) hz⟩
    · cases hz
  · cases hz

theorem newVar_ok (s : SRel G h w) {z : List AV} (e : TypeId) {v : Value} (hv : VRels G z v.cells.toList) :
    RunOk P G h w (do pure (.pointer (some (← newVar e v)))) (.ptr h.blk.length 0) { h with blk := h.blk ++ [z] } := by
  obtain ⟨G', s', st, hφ⟩ := s.alloc e hv
  refine ⟨.pointer (some ⟨w.heap.size, 0, none⟩), _, G', ?_, st, s', ?_⟩
  · simp [newVar, newRow]
  · simp only [VRel]; exact ⟨_, hφ, rfl⟩

theorem alloc_ok (s : SRel G h w) {e : TypeId} {z : List AV} (hz : zeroCs P e = some z) :
    RunOk P G h w (Instr.alloc e true (.tuple #[])) (.ptr h.blk.length 0) { h with blk := h.blk ++ [z] } := by
  obtain ⟨i, v, hi, hv, hr, hrel⟩ := run_zero (w := w) hz
  obtain ⟨u, w', G', h1, h2⟩ := newVar_ok (P := P) s e (hrel G)
  refine ⟨u, w', G', ?_, h2⟩
  simp only [Instr.alloc, Sem.run_bind, hr, Result.andThen_ok]
  exact h1

theorem box_ok (s : SRel G h w) {e : TypeId} {a : AV} {v : Value} {z : List AV} (hr : VRel G a v) (hz : a.cells? = some z) :
    RunOk P G h w (Instr.box e v) (.ptr h.blk.length 0) { h with blk := h.blk ++ [z] } := newVar_ok s e (cells_rel hr hz)

/-- a pointer's target -/
theorem target_rel (s : SRel G h w) {p : AV} {v : Value} (hp : VRel G p v) {cs : List AV} (ht : h.target p = some cs) :
    ∃ c o vs, v = .pointer (some ⟨c, o, none⟩) ∧ VRels G cs vs ∧ ∀ i u, vs[i]? = some u → w.cell? ⟨c, o + i, none⟩ = some u := by
  cases p <;> simp only [H.target, Option.map_eq_some_iff, Option.some.injEq, reduceCtorEq] at ht
  case ptr b o =>
    obtain ⟨cs0, h1, rfl⟩ := ht
    simp only [VRel] at hp
    obtain ⟨c, hc, rfl⟩ := hp
    obtain ⟨cs1, arr, e, h2, h3, _, h4⟩ := s.blk b c hc
    rw [h1] at h2; cases h2
    refine ⟨c.1, o, (arr.toList.take cs0.length).drop o, rfl, h4.drop o, fun i u hu => ?_⟩
    rw [cell_of_row w c.1 (o + i) arr e (0, 0) h3]
    rw [List.getElem?_drop, List.getElem?_take] at hu
    split at hu
    · simpa using hu
    · cases hu
  case cptr cs0 =>
    subst ht
    simp only [VRel] at hp
    obtain ⟨c, o, vs, rfl, h1, h2⟩ := hp
    exact ⟨c, o, vs, rfl, h1, fun i u hu => s.fr _ _ _ (h2 i u hu)⟩

theorem addr_add (c o n : Nat) : (⟨c, o, none⟩ : Addr).add n = ⟨c, o + n, none⟩ := Addr.add_lit c o n

theorem load_quiet (s : SRel G h w) {t : TypeId} {p : AV} {v : Value} (hp : VRel G p v) {cs : List AV} (ht : h.target p = some cs) {x : AV} (hl : aLoad P t cs = some x) :
    ∃ u, (Instr.loadAt t v).run P w = .ok u w ∧ VRel G x u := by
  obtain ⟨c, o, vs, rfl, hvs, hcell⟩ := target_rel s hp ht
  simp only [aLoad] at hl
  split at hl
  · cases hl
  · rename_i d hd
    have hag := run_isAgg (w := w) hd
    by_cases ha : isAggT P t = true
    · rw [if_pos ha] at hl
      split at hl
      · rename_i n hn
        split at hl
        · rename_i hle
          simp only [Option.some.injEq] at hl; subst hl
          have hlen := hvs.length
          have hrun := run_loadCells_list (P := P) w ⟨c, o, none⟩ (vs.take n) (fun j u hu => by
            rw [addr_add]
            refine hcell j u ?_
            rw [List.getElem?_take] at hu
            split at hu
            · exact hu
            · cases hu)
          have hlt : (vs.take n).length = n := by simp; omega
          rw [hlt] at hrun
          refine ⟨.agg (vs.take n).toArray, ?_, ?_⟩
          · simp [Instr.loadAt, Instr.sureAddr, loadVar, hag, ha, run_sizeT hn, hrun]
          · simp only [VRel]; exact ⟨_, rfl, by simpa using hvs.take n⟩
        · cases hl
      · cases hl
    · rw [if_neg ha] at hl
      obtain ⟨u, hu, hrel⟩ := hvs.get 0 x hl
      have hc0 := hcell 0 u hu
      refine ⟨u, ?_, hrel⟩
      simp only [Nat.add_zero] at hc0
      simp [Instr.loadAt, Instr.sureAddr, loadVar, hag, ha, hc0]

theorem load_ok (s : SRel G h w) {t : TypeId} {p : AV} {v : Value} (hp : VRel G p v) {cs : List AV} (ht : h.target p = some cs) {x : AV} (hl : aLoad P t cs = some x) :
    RunOk P G h w (Instr.loadAt t v) x h := by
  obtain ⟨u, h1, h2⟩ := load_quiet (P := P) s hp ht hl
  exact RunOk.quiet s h1 h2

theorem storeCells_run {c o : Nat} {arr : Array Value} {e : TypeId} (hh : w.heap[c]? = some (.cells arr e (0, 0))) (vs : List Value) (hl : o + vs.length ≤ arr.size) (h1 : ∀ v ∈ vs, v.oneCell' = true) :
    (storeCells ⟨c, o, none⟩ vs).run P w = .ok () (w.setRow c (arr.toList.take o ++ vs ++ arr.toList.drop (o + vs.length)).toArray) := by
  have := run_storeCells_at P c o e vs 0 arr w hh (by simpa using hl) h1
  simpa using this

theorem rels_one {as : List AV} {vs : List Value} (hr : VRels G as vs) (ha : as.all AV.one = true) : ∀ v ∈ vs, v.oneCell' = true := by
  intro v hv
  obtain ⟨i, hi⟩ := List.getElem?_of_mem hv
  obtain ⟨a, h1, h2⟩ := hr.get' i v hi
  exact h2.one (List.all_eq_true.1 ha a (List.mem_of_getElem? h1))

theorem putAt_rel {old cs : List AV} {vo vc : List Value} (ho : VRels G old vo) (hc : VRels G cs vc) (o : Nat) :
    VRels G (putAt old o cs) (vo.take o ++ vc ++ vo.drop (o + vc.length)) := by
  unfold putAt
  rw [hc.length]
  exact ((ho.take o).append hc).append (ho.drop _)

theorem bnds_append {nb nt nm : Nat} {as bs : List AV} : AV.bnds nb nt nm (as ++ bs) = (AV.bnds nb nt nm as && AV.bnds nb nt nm bs) := by
  rw [Bool.eq_iff_iff]; simp [AV.bnds_iff, or_imp, forall_and]
theorem bnds_take {nb nt nm : Nat} {as : List AV} (n : Nat) (h : AV.bnds nb nt nm as = true) : AV.bnds nb nt nm (as.take n) = true :=
  AV.bnds_iff.2 fun a ha => AV.bnds_iff.1 h a (List.mem_of_mem_take ha)
theorem bnds_drop {nb nt nm : Nat} {as : List AV} (n : Nat) (h : AV.bnds nb nt nm as = true) : AV.bnds nb nt nm (as.drop n) = true :=
  AV.bnds_iff.2 fun a ha => AV.bnds_iff.1 h a (List.mem_of_mem_drop ha)

theorem take_put {α : Type} (l xs : List α) {o L : Nat} (h : o + xs.length ≤ L) (hL : L ≤ l.length) : (l.take o ++ xs ++ l.drop (o + xs.length)).take L = (l.take L).take o ++ xs ++ (l.take L).drop (o + xs.length) := by
  have e1 : (l.take o ++ xs).length = o + xs.length := by rw [List.length_append, List.length_take]; omega
  rw [List.take_append, e1, List.take_of_length_le (by omega), List.drop_take, List.take_take, Nat.min_eq_left (by omega)]
theorem putAt_len {old cs : List AV} {o : Nat} (h : o + cs.length ≤ old.length) : (putAt old o cs).length = old.length := by
  simp only [putAt, List.length_append, List.length_take, List.length_drop]; omega
theorem store_ok (s : SRel G h w) {β : Base} (hβ : ∀ γ ∈ G.bases, γ.1 ≤ β.nb) {t : TypeId} {p x : AV} {vp vx : Value} (hp : VRel G p vp) (hx : VRel G x vx) {h' : H} (hs : aStore P β t p x h = some h') :
    ∃ w', (Instr.storeAt t vp vx).run P w = .ok () w' ∧ Step G h w G h' w' ∧ SRel G h' w' := by
  simp only [aStore] at hs
  split at hs
  · rename_i b o cs n hcs hn
    split at hs
    · rename_i old hold
      split at hs
      · rename_i hcond
        simp only [Option.some.injEq] at hs; subst hs
        simp only [Bool.and_eq_true, decide_eq_true_eq, Bool.or_eq_true] at hcond
        obtain ⟨⟨⟨h1, h2⟩, h3⟩, h4⟩ := hcond
        simp only [VRel] at hp
        obtain ⟨c, hc, rfl⟩ := hp
        obtain ⟨cs1, arr, e, k1, k2, _, k3⟩ := s.blk b c hc
        rw [hold] at k1; cases k1
        have hvs := cells_rel hx hcs
        have hl1 := hvs.length
        have hl2 := k3.length
        have hst := storeCells_run (P := P) (o := o) k2 vx.cells.toList (by simp at hl1 hl2 ⊢; omega) (rels_one hvs h3)
        have hle : old.length ≤ arr.toList.length := by have := hl2; rw [List.length_take] at this; omega
        have hlc : vx.cells.toList.length = cs.length := hl1.symm
        have hnew := putAt_rel k3 hvs o
        have hsz : vx.cells.size = n := by simp at hl1; omega
        by_cases hne : old = []
        · subst hne
          have hcs0 : cs = [] := by
            cases cs with
            | nil => rfl
            | cons => simp at h2
          subst hcs0
          have hv0 : vx.cells.toList = [] := by simpa using hlc
          have hb' := (List.getElem?_eq_some_iff.1 hold).1
          have hh : { h with blk := h.blk.set b (putAt [] o []) } = h := by
            have e1 : putAt ([] : List AV) o [] = [] := by simp [putAt]
            have e2 : h.blk.set b [] = h.blk := by
              apply List.ext_getElem?
              intro i
              by_cases hi : b = i
              · subst hi; rw [List.getElem?_set_self hb', hold]
              · rw [List.getElem?_set_ne hi]
            rw [e1, e2]
          rw [hh]
          refine ⟨w, ?_, .refl _ _ _, s⟩
          simp only [Instr.storeAt, Instr.sureAddr, storeVar, Sem.run_bind, Sem.run_pure, Result.andThen_ok, run_sizeT hn, hsz]
          simp only [ne_eq, not_true_eq_false, if_false, Sem.run_pure, Result.andThen_ok]
          rw [hv0]; rfl
        obtain ⟨sA, stA⟩ := s.write hc (by rw [hold]; intro q; cases q; exact hne rfl) k2 (hsz := by
            simp only [List.size_toArray, List.length_append, List.length_take, List.length_drop, Array.length_toList]
            simp only [Array.length_toList] at hle; omega) (hcs' := by
            intro q; have := congrArg List.length q; rw [putAt_len h2] at this
            exact hne (List.eq_nil_of_length_eq_zero this)) (arr' := (arr.toList.take o ++ vx.cells.toList ++ arr.toList.drop (o + vx.cells.toList.length)).toArray) (cs' := putAt old o cs) (by
          rw [putAt_len h2]
          have := take_put arr.toList vx.cells.toList (o := o) (L := old.length) (by rw [hlc]; exact h2) hle
          rw [List.toList_toArray, this]; exact hnew) (by
          intro γ hγ hb
          obtain ⟨b1, b2, b3, b4⟩ := s.bases γ hγ
          have hold' := b4 b c old hc hb hold
          rcases h4 with h4 | h4
          · have := hβ γ hγ; omega
          · unfold putAt
            rw [bnds_append, bnds_append]
            simp only [Bool.and_eq_true]
            exact ⟨⟨bnds_take _ hold', AV.bnds_mono (by omega) (Nat.zero_le _) (Nat.zero_le _) _ h4⟩, bnds_drop _ hold'⟩)
        refine ⟨_, ?_, stA, sA⟩
        simp only [Instr.storeAt, Instr.sureAddr, storeVar, Sem.run_bind, Sem.run_pure, Result.andThen_ok, run_sizeT hn, hsz]
        simp only [ne_eq, not_true_eq_false, if_false, Sem.run_pure, Result.andThen_ok]
        exact hst
      · cases hs
    · cases hs
  · cases hs
end
end Go.VM
end
section
/- The abstract operations are right: arithmetic, equality, parts. -/
namespace Go.VM
set_option linter.unusedSectionVars false
variable [Inhabited Globs]
section
variable {P : Program} {G : Ghost} {h : H} {w : World}

/-! ### equality -/
theorem eqs_len : ∀ {ks : List Kd} {xs ys : List AV} {b : Bool}, eqs ks xs ys = some b → xs.length = ks.length ∧ ys.length = ks.length
  | [], [], [], _, _ => ⟨rfl, rfl⟩
  | k :: ks, x :: xs, y :: ys, b, h => by
    simp only [eqs] at h
    split at h
    · rename_i a b h1 h2
      obtain ⟨e1, e2⟩ := eqs_len h2
      simp [e1, e2]
    · cases h
  | [], [], _ :: _, _, h | [], _ :: _, _, _, h | _ :: _, [], _, _, h | _ :: _, _ :: _, [], _, h => by simp [eqs] at h

theorem eqs_append : ∀ {ks : List Kd} {ls : List Kd} {xs ys : List AV} {b : Bool}, eqs (ks ++ ls) xs ys = some b →
    ∃ b1 b2, eqs ks (xs.take ks.length) (ys.take ks.length) = some b1 ∧ eqs ls (xs.drop ks.length) (ys.drop ks.length) = some b2 ∧ b = (b1 && b2)
  | [], ls, xs, ys, b, h => ⟨true, b, by simp [eqs], by simpa using h, by simp⟩
  | k :: ks, ls, [], ys, b, h => by cases ys <;> simp [eqs] at h
  | k :: ks, ls, x :: xs, [], b, h => by simp [eqs] at h
  | k :: ks, ls, x :: xs, y :: ys, b, h => by
    simp only [List.cons_append, eqs] at h
    split at h
    · rename_i a c h1 h2
      obtain ⟨b1, b2, e1, e2, rfl⟩ := eqs_append h2
      simp only [Option.some.injEq] at h; subst h
      exact ⟨a && b1, b2, by simp [eqs, h1, e1], by simpa using e2, by simp [Bool.and_assoc]⟩
    · cases h

theorem part_run {t : TypeId} {d : TypeDesc} (hd : P.underlying t = some d) {n : Nat} (hn : sizeT P t = some n) (arr : Array Value) (off : Nat) (hl : off + n ≤ arr.size) (h1 : isAggT P t = false → n = 1) :
    (part t arr off).run P w = .ok (if isAggT P t then .agg (arr.extract off (off + n)) else arr.getD off undef) w := by
  simp only [part, Sem.run_bind, run_isAgg hd, Result.andThen_ok]
  by_cases ha : isAggT P t = true
  · simp [ha, run_sizeT hn]
  · have := h1 (by simpa using ha)
    subst this
    have hlt : off < arr.size := by omega
    simp [ha, hlt]

/-- what flat tells of a type -/
theorem flat_shape : ∀ {d : Nat} {t : TypeId} {ks : List Kd}, flat P d t = some ks → ∃ de, P.underlying t = some de ∧ (isAggT P t = false → ks.length = 1)
  | 0, _, _, h => by simp [flat] at h
  | d + 1, t, ks, h => by
    simp only [flat] at h
    split at h <;> (try cases h) <;> (rename_i he; refine ⟨_, he, fun ha => ?_⟩) <;> (try rfl)
    · simp [isAggT, he] at ha
    · simp [isAggT, he] at ha

def rdCells (P : Program) (t : TypeId) (vs : List Value) : Value := if isAggT P t then .agg vs.toArray else vs.getD 0 undef

theorem take_drop_one {α : Type} (l : List α) (n : Nat) (d : α) (h : n < l.length) : (l.drop n).take 1 = [l.getD n d] := by
  rw [List.take_one, List.head?_drop]
  simp [List.getD, h]

theorem extract_toList (arr : Array Value) (a n : Nat) : (arr.extract a (a + n)) = ((arr.toList.drop a).take n).toArray := by
  apply Array.ext'
  simp [Array.toList_extract, List.extract_eq_take_drop]

theorem part_run' {t : TypeId} {d : TypeDesc} (hd : P.underlying t = some d) {n : Nat} (hn : sizeT P t = some n) (arr : Array Value) (off : Nat) (hl : off + n ≤ arr.size) (h1 : isAggT P t = false → n = 1) :
    (part t arr off).run P w = .ok (rdCells P t ((arr.toList.drop off).take n)) w := by
  rw [part_run hd hn arr off hl h1, rdCells]
  by_cases ha : isAggT P t = true
  · simp only [ha, if_true, extract_toList]
  · have := h1 (by simpa using ha)
    subst this
    simp only [ha, Bool.false_eq_true, if_false]
    rw [take_drop_one _ _ undef (by simp; omega)]
    simp [List.getD]

end
end Go.VM
end
section
/- Equality at a plain type. -/
namespace Go.VM
set_option linter.unusedSectionVars false
variable [Inhabited Globs]
section
variable {P : Program} {G : Ghost} {h : H} {w : World}

theorem flat_fold_none (fl : TypeId → Option (List Kd)) : ∀ fs : List Field, fs.foldl (flatStep P fl) none = none
  | [] => rfl
  | f :: fs => by simp only [List.foldl_cons]; exact flat_fold_none fl fs

def EqAtD (P : Program) (G : Ghost) (w : World) (d : Nat) : Prop :=
  ∀ D t ks, flat P d t = some ks → d ≤ D → ∀ xs ys vx vy b, VRels G xs vx → VRels G ys vy → eqs ks xs ys = some b → (Op.equalIn D t (rdCells P t vx) (rdCells P t vy)).run P w = .ok b w

theorem fields_run {d D : Nat} (hd : d ≤ D) (ih : EqAtD P G w d) : ∀ (fs : List Field) (l ks : List Kd), fs.foldl (flatStep P fun t => flat P d t) (some l) = some ks →
    ∃ rest, ks = l ++ rest ∧ ∀ xs ys vx vy b, l.length ≤ xs.length → l.length ≤ ys.length → VRels G xs vx → VRels G ys vy → eqs rest (xs.drop l.length) (ys.drop l.length) = some b →
      (Op.eqFields D vx.toArray vy.toArray fs).run P w = .ok b w
  | [], l, ks, h => by
    simp only [List.foldl_nil, Option.some.injEq] at h
    subst h
    refine ⟨[], by simp, fun xs ys vx vy b _ _ _ _ he => ?_⟩
    obtain ⟨h1, h2⟩ := eqs_len he
    have : b = true := by
      rw [List.length_eq_zero_iff.1 h1, List.length_eq_zero_iff.1 h2] at he
      simpa [eqs] using he.symm
    subst this
    simp [Op.eqFields]
  | f :: fs, l, ks, h => by
    simp only [List.foldl_cons] at h
    cases hm : flat P d f.type with
    | none => simp only [flatStep, hm] at h; rw [flat_fold_none] at h; cases h
    | some m =>
      simp only [flatStep, hm] at h
      split at h
      · rename_i hc
        obtain ⟨hn, ho, hs, hi⟩ := hc
        obtain ⟨rest, rfl, hrest⟩ := fields_run hd ih fs (l ++ m) ks h
        refine ⟨m ++ rest, by simp, fun xs ys vx vy b hlx hly hx hy he => ?_⟩
        obtain ⟨b1, b2, e1, e2, rfl⟩ := eqs_append he
        obtain ⟨de, hde, hone⟩ := flat_shape hm
        obtain ⟨lx, ly⟩ := eqs_len he
        have hxl := hx.length
        have hyl := hy.length
        simp only [List.length_drop, List.length_append] at lx ly
        have hsz : isAggT P f.type = false → m.length = 1 := hone
        have px := part_run' (w := w) hde hs vx.toArray f.offset (by simp; omega) hsz
        have py := part_run' (w := w) hde hs vy.toArray f.offset (by simp; omega) hsz
        rw [ho] at px py
        have e := ih D f.type m hm hd _ _ _ _ b1 ((hx.drop l.length).take m.length) ((hy.drop l.length).take m.length) e1
        have r2 := hrest xs ys vx vy b2 (by simp; omega) (by simp; omega) hx hy (by simpa [List.drop_drop, Nat.add_comm] using e2)
        simp only [Op.eqFields, hn, ne_eq, not_false_eq_true, if_true, Sem.run_bind, ho, px, py, Result.andThen_ok, e]
        cases b1
        · simp
        · simpa using r2
      · rw [flat_fold_none] at h; cases h

theorem aggT_struct {t : TypeId} {fs : Array Field} (h : P.underlying t = some (.struct fs)) : isAggT P t = true := by simp [isAggT, h]
theorem aggT_array {t e : TypeId} {n : Nat} (h : P.underlying t = some (.array n e)) : isAggT P t = true := by simp [isAggT, h]

theorem eqs_one {k : Kd} {xs ys : List AV} {b : Bool} (h : eqs [k] xs ys = some b) : ∃ x y, xs = [x] ∧ ys = [y] ∧ eq1 k x y = some b := by
  obtain ⟨h1, h2⟩ := eqs_len h
  match xs, ys, h1, h2 with
  | [x], [y], _, _ =>
    simp only [eqs] at h
    split at h
    · rename_i a c e1 e2
      simp only [Option.some.injEq] at e2 h
      subst e2 h
      exact ⟨x, y, rfl, rfl, by simpa using e1⟩
    · cases h

theorem rels_one' {x : AV} {vs : List Value} (h : VRels G [x] vs) : ∃ v, vs = [v] ∧ VRel G x v := by
  simp only [VRels] at h
  obtain ⟨v, vs', rfl, h1, rfl⟩ := h
  exact ⟨v, rfl, h1⟩

theorem replicate_drop_flatten {α : Type} (m : List α) (n : Nat) : (List.replicate (n + 1) m).flatten = m ++ (List.replicate n m).flatten := by
  simp [List.replicate_succ]

theorem items_run {d D : Nat} (hd : d ≤ D) (ih : EqAtD P G w d) {e : TypeId} {m : List Kd} (hm : flat P d e = some m) {de : TypeDesc} (hde : P.underlying e = some de) (hs : sizeT P e = some m.length) (hone : isAggT P e = false → m.length = 1) :
    ∀ (n j : Nat) (xs ys : List AV) (vx vy : List Value) (b : Bool), j * m.length ≤ xs.length → j * m.length ≤ ys.length → VRels G xs vx → VRels G ys vy →
      eqs (List.replicate n m).flatten (xs.drop (j * m.length)) (ys.drop (j * m.length)) = some b → (Op.eqItems D e m.length vx.toArray vy.toArray (List.range' j n)).run P w = .ok b w
  | 0, j, xs, ys, vx, vy, b, _, _, _, _, he => by
    simp only [List.replicate_zero, List.flatten_nil] at he
    obtain ⟨h1, h2⟩ := eqs_len he
    have : b = true := by
      rw [List.length_eq_zero_iff.1 h1, List.length_eq_zero_iff.1 h2] at he
      simpa [eqs] using he.symm
    subst this
    simp [Op.eqItems]
  | n + 1, j, xs, ys, vx, vy, b, hlx, hly, hx, hy, he => by
    rw [replicate_drop_flatten] at he
    obtain ⟨b1, b2, e1, e2, rfl⟩ := eqs_append he
    obtain ⟨lx, ly⟩ := eqs_len he
    have hxl := hx.length
    have hyl := hy.length
    simp only [List.length_drop, List.length_append] at lx ly
    have px := part_run' (w := w) hde hs vx.toArray (j * m.length) (by simp; omega) hone
    have py := part_run' (w := w) hde hs vy.toArray (j * m.length) (by simp; omega) hone
    have e := ih D e m hm hd _ _ _ _ b1 ((hx.drop (j * m.length)).take m.length) ((hy.drop (j * m.length)).take m.length) e1
    have hj : (j + 1) * m.length = j * m.length + m.length := by rw [Nat.add_mul, Nat.one_mul]
    have r2 := items_run hd ih hm hde hs hone n (j + 1) xs ys vx vy b2 (by rw [hj]; omega) (by rw [hj]; omega) hx hy (by rw [hj]; simpa [List.drop_drop] using e2)
    simp only [List.range'_succ, Op.eqItems, Sem.run_bind, px, py, Result.andThen_ok, e]
    cases b1
    · simp
    · simpa using r2

theorem equalIn_run (d : Nat) : EqAtD P G w d := by
  induction d with
  | zero => intro D t ks h; simp [flat] at h
  | succ d ih =>
    intro D t ks h hd xs ys vx vy b hx hy he
    obtain ⟨D, rfl⟩ : ∃ D', D = D' + 1 := ⟨D - 1, by omega⟩
    simp only [flat] at h
    split at h
    · rename_i hu
      simp only [Option.some.injEq] at h; subst h
      obtain ⟨x, y, rfl, rfl, e⟩ := eqs_one he
      obtain ⟨v, rfl, hv⟩ := rels_one' hx
      obtain ⟨v', rfl, hv'⟩ := rels_one' hy
      cases x <;> cases y <;> simp only [eq1, reduceCtorEq, Option.some.injEq] at e
      simp only [VRel] at hv hv'
      subst hv hv' e
      simp [rdCells, isAggT, hu, Op.equalIn, run_underlying hu]
    · rename_i k hu
      simp only [Option.some.injEq] at h; subst h
      obtain ⟨x, y, rfl, rfl, e⟩ := eqs_one he
      obtain ⟨v, rfl, hv⟩ := rels_one' hx
      obtain ⟨v', rfl, hv'⟩ := rels_one' hy
      cases x <;> cases y <;> simp only [eq1, reduceCtorEq] at e
      split at e
      · rename_i hk
        simp only [Option.some.injEq] at e
        simp only [VRel] at hv hv'
        subst hv hv' e hk
        simp [rdCells, isAggT, hu, Op.equalIn, run_underlying hu]
      · cases e
    · rename_i hu
      simp only [Option.some.injEq] at h; subst h
      obtain ⟨x, y, rfl, rfl, e⟩ := eqs_one he
      obtain ⟨v, rfl, hv⟩ := rels_one' hx
      obtain ⟨v', rfl, hv'⟩ := rels_one' hy
      cases x <;> cases y <;> simp only [eq1, reduceCtorEq, Option.some.injEq] at e
      simp only [VRel] at hv hv'
      subst hv hv' e
      simp [rdCells, isAggT, hu, Op.equalIn, run_underlying hu]
    · rename_i fs hu
      split at h
      · cases h
      · rename_i hst
        obtain ⟨rest, hks, hr⟩ := fields_run (Nat.le_of_succ_le_succ hd) ih fs.toList [] ks h
        have hf : P.fieldsOf t = fs := by simp [Program.fieldsOf, hu]
        rw [List.nil_append] at hks; subst hks
        have := hr xs ys vx vy b (by simp) (by simp) hx hy (by simpa using he)
        simp only [rdCells, aggT_struct hu, if_true]
        rw [run_equalIn_struct w D t _ _ (by rw [hf]; exact hu) (by simpa using hst), hf]
        exact this
    · rename_i n e hu
      split at h
      · rename_i m hm
        split at h
        · rename_i hs
          simp only [Option.some.injEq] at h; subst h
          simp only [sizeT, Option.map_eq_some_iff] at hs
          obtain ⟨i, hi, hsz⟩ := hs
          have hs' : sizeT P e = some m.length := by simp [sizeT, hi, hsz]
          obtain ⟨de, hde, hone⟩ := flat_shape hm
          simp only [rdCells, aggT_array hu, if_true]
          rw [run_equalIn_array w D _ _ hu hi]
          have hco : P.cellsOf e = m.length := by simp [Program.cellsOf, hi, hsz]
          rw [hco, List.range_eq_range']
          exact items_run (Nat.le_of_succ_le_succ hd) ih hm hde hs' hone n 0 xs ys vx vy b (by simp) (by simp) hx hy (by simpa using he)
        · cases h
      · cases h
    · cases h
end
end Go.VM
end
section
/- Operators. -/
namespace Go.VM
set_option linter.unusedSectionVars false
variable [Inhabited Globs]
section
variable {P : Program} {G : Ghost} {h : H} {w : World}

theorem rdCells_agg {t : TypeId} (ha : isAggT P t = true) {v : Value} {arr : Array Value} (hv : v = .agg arr) : rdCells P t v.cells.toList = v := by
  subst hv; simp [rdCells, ha, Value.cells]
theorem rdCells_one {t : TypeId} (ha : isAggT P t = false) {v : Value} (hv : v.oneCell' = true) : rdCells P t v.cells.toList = v := by
  have : v.cells = #[v] := by cases v <;> simp_all [Value.cells, Value.oneCell']
  rw [this]; simp [rdCells, ha]

theorem rdCells_self {t : TypeId} {x : AV} {v : Value} (hx : VRel G x v) {xs : List AV} (hc : x.cells? = some xs) (ha : isAggT P t = x.isAgg) : rdCells P t v.cells.toList = v := by
  cases x <;> simp only [AV.cells?, reduceCtorEq] at hc
  case agg cs =>
    simp only [VRel] at hx
    obtain ⟨vs, rfl, _⟩ := hx
    exact rdCells_agg ha rfl
  all_goals exact rdCells_one ha (hx.one rfl)

theorem aEq_run {t : TypeId} {x y : AV} {b : Bool} (he : aEq P t x y = some b) {vx vy : Value} (hx : VRel G x vx) (hy : VRel G y vy) : (Op.equal t vx vy).run P w = .ok b w := by
  simp only [aEq] at he
  split at he
  · rename_i ks xs ys hk hxs hys
    split at he
    · rename_i hc
      have := equalIn_run (P := P) (G := G) (w := w) 20 Op.maxDepth t ks hk (by simp [Op.maxDepth]) xs ys _ _ b (cells_rel hx hxs) (cells_rel hy hys) he
      rw [rdCells_self hx hxs hc.1, rdCells_self hy hys hc.2] at this
      exact this
    · cases he
  · cases he

theorem aIntOp_run {op : BinOp} {k : IntKind} {a b : Int} {r : AV} (hr : aIntOp op k a b = some r) (t : TypeId) (hs : ¬ (op = .shl ∨ op = .shr)) :
    ∃ u, (binOp op t (.int k a) (.int k b)).run P w = .ok u w ∧ VRel G r u := by
  cases op <;> simp only [aIntOp, Option.some.injEq, reduceCtorEq] at hr
  case quo | rem =>
    split at hr
    · cases hr
    · rename_i hb
      simp only [Option.some.injEq] at hr; subst hr
      exact ⟨_, by simp [binOp, Op.intDiv, hb]; rfl, by simp [VRel]⟩
  all_goals (subst hr; exact ⟨_, by simp [binOp, Op.intArith, Op.intCmp, Op.intBits]; rfl, by simp [VRel]⟩)

theorem aShift_run {op : BinOp} {k k' : IntKind} {a b : Int} {r : AV} (hr : aShift op k a b = some r) (t : TypeId) (hs : op = .shl ∨ op = .shr) :
    ∃ u, (binOp op t (.int k a) (.int k' b)).run P w = .ok u w ∧ VRel G r u := by
  simp only [aShift] at hr
  split at hr
  · cases hr
  · rename_i hb
    rcases hs with rfl | rfl <;> simp only [Option.some.injEq] at hr <;> subst hr <;>
      exact ⟨_, by simp [binOp, Op.shift, hb]; rfl, by simp [VRel]⟩

theorem slice_nil_rel {cs : List AV} {n : Nat} {r : Room} {v : Value} (hv : VRel G (.sl cs n r) v) : ∃ a l c, v = .slice a l c ∧ a.isNone = (r == .nil) := by
  simp only [VRel] at hv
  rcases hv with (⟨rfl, _, _, rfl⟩ | ⟨rfl, _, _, a, rfl⟩) | ⟨c, o, cap, vs, rfl, _, _, h3, _⟩
  · exact ⟨none, 0, 0, rfl, rfl⟩
  · exact ⟨some a, 0, 0, rfl, rfl⟩
  · refine ⟨_, _, _, rfl, ?_⟩
    cases r <;> simp [RoomOk] at h3 ⊢ <;> rfl

theorem eq_slices (d : Nat) {t e : TypeId} (hu : P.underlying t = some (.slice e)) {a a' : Option Addr} {l c l' c' : Nat} (hn : a.isNone = true ∨ a'.isNone = true) :
    (Op.equalIn (d + 1) t (.slice a l c) (.slice a' l' c')).run P w = .ok (a.isNone && a'.isNone) w := by
  cases a <;> cases a' <;> simp at hn <;> simp [Op.equalIn, run_underlying hu]

theorem isBoolT_eq {t : TypeId} (h : isBoolT P t = true) : P.underlying t = some .bool := by
  unfold isBoolT at h; split at h
  · assumption
  · cases h
theorem isSliceT_eq {t : TypeId} (h : isSliceT P t = true) : ∃ e, P.underlying t = some (.slice e) := by
  unfold isSliceT at h; split at h
  · exact ⟨_, by assumption⟩
  · cases h
theorem eqOnly_cases {op : BinOp} {b : Bool} {r : AV} (h : eqOnly op b = some r) : (op = .eql ∧ r = .bool b) ∨ (op = .neq ∧ r = .bool (!b)) := by
  cases op <;> simp [eqOnly] at h
  · exact .inl ⟨rfl, h.symm⟩
  · exact .inr ⟨rfl, h.symm⟩

theorem bin_ok {op : BinOp} {t : TypeId} {x y : AV} {r : AV} (hr : aBin P op t x y = some r) {vx vy : Value} (hx : VRel G x vx) (hy : VRel G y vy) (ox oy : Operand) :
    ∃ u, (do eqGuard op t ox oy vx vy; binOp op t vx vy : Sem Value).run P w = .ok u w ∧ VRel G r u := by
  unfold aBin at hr
  split at hr
  · rename_i k a k' b
    simp only [VRel] at hx hy
    subst hx hy
    have hg : (eqGuard op t ox oy (.int k a) (.int k' b)).run P w = .ok () w := by simp only [eqGuard]; split <;> rfl
    simp only [Sem.run_bind, hg, Result.andThen_ok]
    split at hr
    · rename_i hs; exact aShift_run hr t hs
    · rename_i hs
      split at hr
      · rename_i hk; subst hk; exact aIntOp_run hr t hs
      · cases hr
  · rename_i a b
    simp only [VRel] at hx hy
    subst hx hy
    have hg : (eqGuard op t ox oy (.bool a) (.bool b)).run P w = .ok () w := by simp only [eqGuard]; split <;> rfl
    simp only [Sem.run_bind, hg, Result.andThen_ok]
    split at hr
    · rename_i hu
      have hu' := isBoolT_eq hu
      rcases eqOnly_cases hr with ⟨rfl, rfl⟩ | ⟨rfl, rfl⟩
      · exact ⟨_, run_eql_bool w t a b hu', by simp [VRel]⟩
      · exact ⟨_, run_neq_bool w t a b hu', by simp [VRel]⟩
    · cases hr
  · rename_i a b
    simp only [VRel] at hx hy
    subst hx hy
    have hg : (eqGuard op t ox oy (.string a) (.string b)).run P w = .ok () w := by simp only [eqGuard]; split <;> rfl
    simp only [Sem.run_bind, hg, Result.andThen_ok]
    rcases eqOnly_cases hr with ⟨rfl, rfl⟩ | ⟨rfl, rfl⟩
    · exact ⟨_, by simp [binOp, Op.stringOp]; rfl, by simp [VRel]⟩
    · exact ⟨_, by simp [binOp, Op.stringOp]; rfl, by simp [VRel]⟩
  · rename_i as bs
    split at hr
    · cases hr
    · rename_i hg0
      have hg1 : P.eqGuardType P.depth t = false := by simpa using hg0
      have hx' := hx
      have hy' := hy
      simp only [VRel] at hx' hy'
      obtain ⟨vs, rfl, _⟩ := hx'
      obtain ⟨us, rfl, _⟩ := hy'
      simp only [Sem.run_bind, run_eqGuard_agg w op t ox oy vs us hg1, Result.andThen_ok]
      rw [Option.bind_eq_some_iff] at hr
      obtain ⟨b, he, hr⟩ := hr
      have hrun := aEq_run (w := w) he hx hy
      rcases eqOnly_cases hr with ⟨rfl, rfl⟩ | ⟨rfl, rfl⟩
      · exact ⟨_, by simp [binOp, hrun]; rfl, by simp [VRel]⟩
      · exact ⟨_, by simp [binOp, hrun]; rfl, by simp [VRel]⟩
  · rename_i cs n r0 cs' n' r0'
    split at hr
    · rename_i hc
      simp only [Bool.and_eq_true, Bool.or_eq_true] at hc
      obtain ⟨hu, hn⟩ := hc
      obtain ⟨e, hu'⟩ := isSliceT_eq hu
      obtain ⟨a, l, c, rfl, ha⟩ := slice_nil_rel hx
      obtain ⟨a', l', c', rfl, ha'⟩ := slice_nil_rel hy
      have hg : (eqGuard op t ox oy (.slice a l c) (.slice a' l' c')).run P w = .ok () w := by simp only [eqGuard]; split <;> rfl
      have hq : (Op.equal t (.slice a l c) (.slice a' l' c')).run P w = .ok (a.isNone && a'.isNone) w := by
        rw [← ha, ← ha'] at hn
        exact eq_slices 9999 hu' hn
      simp only [Sem.run_bind, hg, Result.andThen_ok]
      rw [← ha, ← ha'] at hr
      rcases eqOnly_cases hr with ⟨rfl, rfl⟩ | ⟨rfl, rfl⟩
      · exact ⟨_, by simp [binOp, hq]; rfl, by simp [VRel]⟩
      · exact ⟨_, by simp [binOp, hq]; rfl, by simp [VRel]⟩
    · cases hr
  · cases hr

theorem un_ok {op : UnOp} {x r : AV} (hr : aUn op x = some r) {v : Value} (hx : VRel G x v) : ∃ u, (Op.unary op v).run P w = .ok u w ∧ VRel G r u := by
  unfold aUn at hr
  split at hr
  · simp only [VRel] at hx; subst hx
    simp only [Option.some.injEq] at hr; subst hr
    exact ⟨_, by simp [Op.unary]; rfl, by simp [VRel]⟩
  · simp only [VRel] at hx; subst hx
    simp only [Option.some.injEq] at hr; subst hr
    exact ⟨_, by simp [Op.unary, Op.intArith]; rfl, by simp [VRel]⟩
  · cases hr

theorem convert_ok {src dst : TypeId} {x r : AV} (hr : aConvert P src dst x = some r) {v : Value} (hx : VRel G x v) : ∃ u, (convert src dst v).run P w = .ok u w ∧ VRel G r u := by
  unfold aConvert at hr
  split at hr
  · rename_i d k k' n hs hd
    simp only [VRel] at hx; subst hx
    simp only [Option.some.injEq] at hr; subst hr
    refine ⟨.int k (k.wrap n), ?_, by simp [VRel]⟩
    simp only [convert, Sem.run_bind, run_underlying hs, run_underlying hd, Result.andThen_ok]
    cases d <;> rfl
  · cases hr
end
end Go.VM
end
section
/- Making, slicing, addressing. -/
namespace Go.VM
set_option linter.unusedSectionVars false
variable [Inhabited Globs]
section
variable {P : Program} {G : Ghost} {h : H} {w : World}

/-! ### parts put into place -/
theorem zip_put (vs : List Value) : ∀ (off : Nat) (arr : Array Value) (k : Nat), off + k + vs.length ≤ arr.size →
    ((vs.zipIdx k).foldl (fun cs (p : Value × Nat) => cs.setIfInBounds (off + p.2) p.1) arr).toList = arr.toList.take (off + k) ++ vs ++ arr.toList.drop (off + k + vs.length) := by
  induction vs with
  | nil => intro off arr k _; simp
  | cons v vs ih =>
    intro off arr k hl
    simp only [List.length_cons] at hl
    simp only [List.zipIdx_cons, List.foldl_cons]
    rw [ih off _ (k + 1) (by simp; omega)]
    simp only [Array.toList_setIfInBounds]
    have hlt : off + k < arr.toList.length := by simp; omega
    rw [show off + (k + 1) = (off + k) + 1 from by omega]
    rw [List.take_set, List.take_succ_eq_append_getElem hlt, List.drop_set_of_lt (by omega)]
    have h2 : min (off + k) arr.size = off + k := by simp at hlt; omega
    have e : (List.take (off + k) arr.toList ++ [arr.toList[off + k]]).set (off + k) v = List.take (off + k) arr.toList ++ [v] := by
      rw [List.set_append_right _ _ (by simp [h2])]
      simp [h2]
    rw [e]
    rw [show off + k + 1 + vs.length = off + k + (vs.length + 1) from by omega]
    simp only [List.length_cons, List.append_assoc, List.singleton_append, List.cons_append, List.nil_append]

/-- 'fill' over the model's values goes as 'afill' -/
theorem fill_rel (place place' : Nat → Option (Nat × Nat)) (hp : ∀ i x, place' i = some x → place i = some x) : ∀ (ps : List (Nat × AV)) (vs : List (Nat × Value)) (cs : List AV) (arr : Array Value) (r : List AV),
    ps.length = vs.length → (∀ (i : Nat) (p : Nat × AV) (q : Nat × Value), ps[i]? = some p → vs[i]? = some q → p.1 = q.1 ∧ VRel G p.2 q.2) → VRels G cs arr.toList → afill place' cs ps = some r →
    ∃ arr', Instr.fill place arr vs = some arr' ∧ VRels G r arr'.toList
  | [], [], cs, arr, r, _, _, hr, hf => by
    simp only [afill, Option.some.injEq] at hf; subst hf
    exact ⟨arr, rfl, hr⟩
  | (i, a) :: ps, (j, v) :: vs, cs, arr, r, hl, hrel, hr, hf => by
    obtain ⟨e1, e2⟩ := hrel 0 (i, a) (j, v) rfl rfl
    simp only at e1 e2; subst e1
    simp only [afill] at hf
    split at hf
    · rename_i off size vc hpl hc
      split at hf
      · cases hf
      · rename_i hcond
        have hvc := cells_rel e2 hc
        have hl1 := hvc.length
        have hl2 := hr.length
        simp only [not_or, ne_eq, Decidable.not_not] at hcond
        simp only [Array.length_toList] at hl1 hl2
        have hput : ((v.cells.zipIdx.foldl (fun cs (c, j) => cs.setIfInBounds (off + j) c) arr)).toList = arr.toList.take off ++ v.cells.toList ++ arr.toList.drop (off + v.cells.toList.length) := by
          have := zip_put v.cells.toList off arr 0 (by simp; omega)
          rw [← Array.foldl_toList, Array.toList_zipIdx]
          simpa using this
        obtain ⟨arr', h1, h2⟩ := fill_rel place place' hp ps vs (putAt cs off vc) (v.cells.zipIdx.foldl (fun cs (c, j) => cs.setIfInBounds (off + j) c) arr) r (by simpa using hl)
          (fun i p q hp hq => hrel (i + 1) p q (by simpa using hp) (by simpa using hq)) (by rw [hput]; exact putAt_rel hr hvc off) hf
        refine ⟨arr', ?_, h2⟩
        simp only [Instr.fill, hp _ _ hpl]
        have : ¬ (v.cells.size ≠ size || decide (off + v.cells.size > arr.size)) = true := by
          simp only [Bool.or_eq_true, decide_eq_true_eq, not_or, ne_eq, Decidable.not_not]
          omega
        rw [if_neg (by simpa using this)]
        exact h1
    · cases hf
  | [], _ :: _, _, _, _, hl, _, _, _ => by simp at hl
  | _ :: _, [], _, _, _, hl, _, _, _ => by simp at hl

theorem parts_rel {A : List AV} {a : Act} (r : ARel G A a) (parts : Array (Nat × Operand)) :
    ∀ (i : Nat) (p : Nat × AV) (q : Nat × Value), (parts.toList.map fun (i, x) => (i, aev A x))[i]? = some p → ((parts.map fun (i, x) => (i, a.eval x)).toList)[i]? = some q → p.1 = q.1 ∧ VRel G p.2 q.2 := by
  intro i p q hp hq
  simp only [Array.toList_map, List.getElem?_map, Option.map_eq_some_iff] at hp hq
  obtain ⟨x, hx, rfl⟩ := hp
  obtain ⟨y, hy, rfl⟩ := hq
  rw [hx] at hy; cases hy
  exact ⟨rfl, aev_rel r x.2⟩

theorem mapM_places (fs : List Field) (hall : ∀ f ∈ fs, (P.info? f.type).isSome) :
    (fs.mapM fun f => (do pure (f.offset, ← sizeOf f.type) : Sem (Nat × Nat))).run P w = .ok (fs.map fun f => (f.offset, (sizeT P f.type).getD 0)) w := by
  induction fs with
  | nil => rfl
  | cons f fs ih =>
    obtain ⟨i, hi⟩ := Option.isSome_iff_exists.1 (hall f (by simp))
    rw [List.mapM_cons]
    simp only [Sem.run_bind, run_sizeOf hi, Result.andThen_ok, Sem.run_pure, ih (fun f hf => hall f (by simp [hf])), List.map_cons, sizeT, hi, Option.map_some, Option.getD_some]

theorem build_ok {A : List AV} {a : Act} (r : ARel G A a) {t : TypeId} {parts : Array (Nat × Operand)} {x : AV} (hb : aBuild P t (parts.toList.map fun (i, x) => (i, aev A x)) = some x) :
    ∃ u, (Instr.build t (parts.map fun (i, x) => (i, a.eval x))).run P w = .ok u w ∧ VRel G x u := by
  unfold aBuild at hb
  split at hb
  · rename_i z fs hz hu
    obtain ⟨i, v, hi, hv, hrun, hrel⟩ := run_zero (w := w) hz
    split at hb
    · rename_i hall
      rw [Option.map_eq_some_iff] at hb
      obtain ⟨cs, hf, rfl⟩ := hb
      have hplaces := mapM_places (w := w) fs.toList (fun f hf => by
        have := List.all_eq_true.1 hall f hf
        exact this)
      obtain ⟨arr', h1, h2⟩ := fill_rel (fun i => (fs.toList.map fun f => (f.offset, (sizeT P f.type).getD 0)).toArray[i]?) (fun i => (fs.toList[i]?).map fun f => (f.offset, (sizeT P f.type).getD 0)) (fun i x hx => by simpa using hx)
        _ _ z v.cells cs (by simp) (parts_rel r parts) (hrel G) hf
      refine ⟨.agg arr', ?_, by simp only [VRel]; exact ⟨_, rfl, h2⟩⟩
      simp only [Instr.build, Sem.run_bind, hrun, Result.andThen_ok, run_underlying hu]
      rw [Array.mapM_eq_mapM_toList]
      simp only [Sem.run_map, hplaces, Result.andThen_ok, h1, Sem.run_pure]
    · cases hb
  · rename_i z n e hz hu
    obtain ⟨i, v, hi, hv, hrun, hrel⟩ := run_zero (w := w) hz
    split at hb
    · rename_i sz hsz
      rw [Option.map_eq_some_iff] at hb
      obtain ⟨cs, hf, rfl⟩ := hb
      obtain ⟨arr', h1, h2⟩ := fill_rel (fun i => some (i * sz, sz)) (fun i => some (i * sz, sz)) (fun i x hx => hx)
        _ _ z v.cells cs (by simp) (parts_rel r parts) (hrel G) hf
      refine ⟨.agg arr', ?_, by simp only [VRel]; exact ⟨_, rfl, h2⟩⟩
      simp only [Instr.build, Sem.run_bind, hrun, Result.andThen_ok, run_underlying hu, run_sizeT hsz, h1, Sem.run_pure]
    · cases hb
  · cases hb

/-! ### rows of zeros -/
theorem flat_rep_get {α : Type} (z : List α) : ∀ (n i : Nat), i < n * z.length → (List.replicate n z).flatten[i]? = z[i % z.length]?
  | 0, i, h => by simp at h
  | n + 1, i, h => by
    rw [replicate_drop_flatten]
    by_cases hi : i < z.length
    · rw [List.getElem?_append_left hi, Nat.mod_eq_of_lt hi]
    · rw [List.getElem?_append_right (by omega), flat_rep_get z n (i - z.length) (by rw [Nat.add_mul] at h; omega)]
      rw [← Nat.mod_eq_sub_mod (by omega)]

theorem rows_eq (z : Array Value) (n : Nat) : ((Array.range (n * z.size)).map fun i => z[i % z.size]!).toList = (List.replicate n z.toList).flatten := by
  apply List.ext_getElem?
  intro i
  by_cases hi : i < n * z.size
  · have hz : 0 < z.size := by
      rcases Nat.eq_zero_or_pos z.size with h | h
      · rw [h] at hi; simp at hi
      · exact h
    have hm := Nat.mod_lt i hz
    rw [flat_rep_get z.toList n i (by simpa using hi)]
    simp [hi, hm]
  · have h1 : ((Array.range (n * z.size)).map fun i => z[i % z.size]!).toList.length ≤ i := by simp; omega
    have h2 : (List.replicate n z.toList).flatten.length ≤ i := by simp; omega
    rw [List.getElem?_eq_none h1, List.getElem?_eq_none h2]

theorem rels_flat {z : List AV} {vz : List Value} (hz : VRels G z vz) : ∀ n, VRels G (List.replicate n z).flatten (List.replicate n vz).flatten
  | 0 => by simp [VRels]
  | n + 1 => by simp only [List.replicate_succ, List.flatten_cons]; exact hz.append (rels_flat hz n)

theorem elemT_eq {t e : TypeId} (h : elemT P t = some e) : P.underlying t = some (.slice e) := by
  unfold elemT at h; split at h
  · cases h; assumption
  · cases h

theorem buildSlice_ok (s : SRel G h w) {A : List AV} {a : Act} (r : ARel G A a) {t : TypeId} {len : Nat} {parts : Array (Nat × Operand)} {x : AV} (hb : aBuildSlice P t len (parts.toList.map fun (i, x) => (i, aev A x)) = some x) :
    RunOk P G h w (Instr.buildSlice t len (parts.map fun (i, x) => (i, a.eval x))) x h := by
  unfold aBuildSlice at hb
  split at hb
  · rename_i e he
    split at hb
    · rename_i n z hn hz
      obtain ⟨i, v, hi, hv, hrun, hrel⟩ := run_zero (w := w) hz
      split at hb
      · rename_i hc
        obtain ⟨hc1, hc2, hc3⟩ := hc
        rw [Option.map_eq_some_iff] at hb
        obtain ⟨cs, hf, rfl⟩ := hb
        have hvz := (hrel G)
        have hl := hvz.length
        simp only [Array.length_toList] at hl
        have hzs : v.cells.size = n := by omega
        have hinit : VRels G (List.replicate len z).flatten ((Array.range (len * n)).map fun i => v.cells[i % v.cells.size]!).toList := by
          rw [← hzs, rows_eq]; exact rels_flat hvz len
        obtain ⟨arr', h1, h2⟩ := fill_rel (fun i => some (i * n, n)) (fun i => some (i * n, n)) (fun i x hx => hx)
          _ _ _ _ cs (by simp) (parts_rel r parts) hinit hf
        obtain ⟨G', _, s', st, hfr, _⟩ := s.freezeNew arr' e
        generalize (parts.map fun (i, x) => (i, a.eval x)) = vp at h1 ⊢
        refine ⟨.slice (some ⟨w.heap.size, 0, none⟩) len len, w.alloc (.cells arr' e), G', ?_, st, s', ?_⟩
        · have hnot : ¬ 16777216 < len * n := by omega
          by_cases h0 : len * n = 0
          · have hlen : len = 0 := by
              rcases Nat.mul_eq_zero.1 h0 with h | h
              · exact h
              · omega
            subst hlen
            have hr0 : Array.range 0 = #[] := rfl
            have h1' : Instr.fill (fun i => some (i * n, n)) #[] vp.toList = some arr' := by simpa [hr0] using h1
            simp [hr0, Instr.buildSlice, run_underlying (elemT_eq he), run_sizeT hn, newRow, h1']
          · simp [Instr.buildSlice, run_underlying (elemT_eq he), run_sizeT hn, hnot, h0, hrun, h1, newRow]
        · simp only [VRel]
          refine .inr ⟨w.heap.size, 0, len, arr'.toList, rfl, Nat.le_refl _, ?_, rfl, VRels.mono st.le _ _ h2, fun i u hu => ?_⟩
          · have : len ≤ len * n := Nat.le_mul_of_pos_right _ hc2
            unfold maxLen; omega
          · simpa using hfr i u (by simpa using hu)
      · cases hb
    · cases hb
  · cases hb
end
end Go.VM
end
section
/- Making, slicing, addressing: the rest. -/
namespace Go.VM
set_option linter.unusedSectionVars false
variable [Inhabited Globs]
section
variable {P : Program} {G : Ghost} {h : H} {w : World}

theorem make_ok (s : SRel G h w) {t : TypeId} {l c : Int} {x : AV} {h' : H} (hm : aMake P t l c h = some (x, h')) : RunOk P G h w (Instr.makeSlice t (.int .i64 l) (.int .i64 c)) x h' := by
  unfold aMake at hm
  split at hm
  · rename_i e he
    split at hm
    · rename_i i z hi hz
      obtain ⟨i', v, hi', hv, hrun, hrel⟩ := run_zero (w := w) hz
      rw [hi] at hi'; cases hi'
      split at hm
      · rename_i hc
        obtain ⟨c1, c2, c3, c4, c5, c6⟩ := hc
        simp only [Option.some.injEq, Prod.mk.injEq] at hm
        obtain ⟨rfl, rfl⟩ := hm
        have hvz := hrel G
        have hl := hvz.length
        simp only [Array.length_toList] at hl
        have hzs : v.cells.size = i.size := by omega
        have hmax : (maxLen : Int) = 9223372036854775807 := by simp [maxLen]
        rw [hmax] at c6
        have hwl : IntKind.i64.wrap l = l := by simp only [IntKind.wrap, IntKind.bits, IntKind.signed]; simp; omega
        have hwc : IntKind.i64.wrap c = c := by simp only [IntKind.wrap, IntKind.bits, IntKind.signed]; simp; omega
        have hinit : VRels G (List.replicate c.toNat z).flatten ((Array.range (c.toNat * i.size)).map fun j => v.cells[j % v.cells.size]!).toList := by
          rw [← hzs, rows_eq]; exact rels_flat hvz _
        obtain ⟨G', s', st, hφ⟩ := s.alloc e hinit
        refine ⟨.slice (some ⟨w.heap.size, 0, none⟩) l.toNat c.toNat, _, G', ?_, st, s', ?_⟩
        · have n1 : ¬ c < 0 := by omega
          have n2 : ¬ (281474976710656 < (i.bytes : Int) * c) := by omega
          have n3 : ¬ l < 0 := by omega
          have n4 : ¬ c < l := by omega
          by_cases h0 : c.toNat * i.size = 0
          · have hc0 : c.toNat = 0 := by
              rcases Nat.mul_eq_zero.1 h0 with h | h
              · exact h
              · omega
            have hr0 : Array.range 0 = #[] := rfl
            simp [Instr.makeSlice, run_underlying (elemT_eq he), asInt, asIntOf, run_typeInfo hi, run_sizeOf hi, hwl, hwc, n1, n2, n3, n4, hc0, newRow, hr0]
          · simp [Instr.makeSlice, run_underlying (elemT_eq he), asInt, asIntOf, run_typeInfo hi, run_sizeOf hi, hwl, hwc, n1, n2, n3, n4, h0, hrun, newRow]
        · simp only [VRel]
          exact ⟨_, hφ, _, rfl, by omega, by unfold maxLen; omega, .inl rfl, fun q => by unfold noCap maxLen at q; omega⟩
      · cases hm
    · cases hm
  · cases hm

theorem fieldT_eq {t : TypeId} {f : Nat} {fd : Field} (hf : fieldT P t f = some fd) : ∃ fs, P.underlying t = some (.struct fs) ∧ fs[f]? = some fd := by
  unfold fieldT at hf; split at hf
  · exact ⟨_, by assumption, hf⟩
  · cases hf

theorem cptr_drop {cs : List AV} {v : Value} (hx : VRel G (.cptr cs) v) (n : Nat) : ∃ c o, v = .pointer (some ⟨c, o, none⟩) ∧ VRel G (.cptr (cs.drop n)) (.pointer (some ⟨c, o + n, none⟩)) := by
  simp only [VRel] at hx ⊢
  obtain ⟨c, o, vs, rfl, h1, h2⟩ := hx
  refine ⟨c, o, rfl, c, o + n, vs.drop n, rfl, h1.drop n, fun i u hu => ?_⟩
  rw [List.getElem?_drop] at hu
  have := h2 (n + i) u hu
  rwa [show o + n + i = o + (n + i) from by omega]

theorem fieldAddr_ok {t : TypeId} {f : Nat} {x y : AV} (hf : aFieldAddr P t x f = some y) {v : Value} (hx : VRel G x v) : ∃ u, (Instr.fieldAt t v f).run P w = .ok u w ∧ VRel G y u := by
  unfold aFieldAddr at hf
  split at hf
  · rename_i fd hfd
    obtain ⟨fs, hu, hg⟩ := fieldT_eq hfd
    split at hf
    · rename_i z hz
      split at hf
      · cases hf
      · rename_i hz0
        split at hf
        · rename_i b o
          simp only [Option.some.injEq] at hf; subst hf
          simp only [VRel] at hx
          obtain ⟨c, hc, rfl⟩ := hx
          refine ⟨.pointer (some ⟨c.1, o + fd.offset, none⟩), ?_, by simp only [VRel]; exact ⟨c, hc, rfl⟩⟩
          simp [Instr.fieldAt, run_underlying hu, hg, Instr.sureAddr, fieldPlace, run_sizeT hz, hz0, addr_add]
        · rename_i cs
          simp only [Option.some.injEq] at hf; subst hf
          obtain ⟨c, o, rfl, hr⟩ := cptr_drop hx fd.offset
          refine ⟨.pointer (some ⟨c, o + fd.offset, none⟩), ?_, hr⟩
          simp [Instr.fieldAt, run_underlying hu, hg, Instr.sureAddr, fieldPlace, run_sizeT hz, hz0, addr_add]
        · cases hf
    · cases hf
  · cases hf

theorem indexAddr_ok {t : TypeId} {x ix y : AV} (hi : aIndexAddr P t x ix = some y) {v vi : Value} (hx : VRel G x v) (hix : VRel G ix vi) : ∃ u, (Instr.indexAt t v vi).run P w = .ok u w ∧ VRel G y u := by
  unfold aIndexAddr at hi
  split at hi
  · rename_i k i
    simp only [VRel] at hix; subst hix
    split at hi
    · rename_i h0
      split at hi
      · rename_i cs n r e hu
        split at hi
        · rename_i z hz
          split at hi
          · rename_i hc
            simp only [Option.some.injEq] at hi; subst hi
            simp only [VRel] at hx
            rcases hx with (⟨rfl, _⟩ | ⟨rfl, _, rfl, _⟩) | ⟨c, o, cap, vs, rfl, h1, h2, h3, h4, h5⟩
            · exact absurd rfl hc.2
            · have := hc.1; omega
            · refine ⟨.pointer (some ⟨c, o + i.toNat * z, none⟩), ?_, ?_⟩
              · simp [Instr.indexAt, asIntOf, run_underlying hu, h0, hc.1, run_sizeT hz, addr_add]
              · simp only [VRel]
                refine ⟨c, _, vs.drop (i.toNat * z), rfl, h4.drop _, fun j u hu => ?_⟩
                rw [List.getElem?_drop] at hu
                have := h5 _ u hu
                rwa [show o + i.toNat * z + j = o + (i.toNat * z + j) from by omega]
          · cases hi
        · cases hi
      · rename_i b o n cap z0 e hu
        split at hi
        · rename_i z hz
          split at hi
          · rename_i hc
            simp only [Option.some.injEq] at hi; subst hi
            simp only [VRel] at hx
            obtain ⟨c, h1, _, rfl, _⟩ := hx
            refine ⟨.pointer (some ⟨c.1, o + i.toNat * z, none⟩), ?_, by simp only [VRel]; exact ⟨c, h1, rfl⟩⟩
            simp [Instr.indexAt, asIntOf, run_underlying hu, h0, hc, run_sizeT hz, addr_add]
          · cases hi
        · cases hi
      · rename_i b o n e hu
        split at hi
        · rename_i z hz
          split at hi
          · rename_i hc
            simp only [Option.some.injEq] at hi; subst hi
            simp only [VRel] at hx
            obtain ⟨c, h1, rfl⟩ := hx
            refine ⟨.pointer (some ⟨c.1, o + i.toNat * z, none⟩), ?_, by simp only [VRel]; exact ⟨c, h1, rfl⟩⟩
            simp [Instr.indexAt, asIntOf, run_underlying hu, h0, hc, run_sizeT hz, addr_add, Instr.sureAddr]
          · cases hi
        · cases hi
      · rename_i cs n e hu
        split at hi
        · rename_i z hz
          split at hi
          · rename_i hc
            simp only [Option.some.injEq] at hi; subst hi
            obtain ⟨c, o, rfl, hr⟩ := cptr_drop hx (i.toNat * z)
            refine ⟨.pointer (some ⟨c, o + i.toNat * z, none⟩), ?_, hr⟩
            simp [Instr.indexAt, asIntOf, run_underlying hu, h0, hc, run_sizeT hz, addr_add, Instr.sureAddr]
          · cases hi
        · cases hi
      · cases hi
    · cases hi
  · cases hi

theorem aLoad_part {e : TypeId} {cs : List AV} {x : AV} {arr : Array Value} {off : Nat} (hr : VRels G cs (arr.toList.drop off)) (hl : aLoad P e cs = some x) (hoff : off ≤ arr.size) :
    ∃ u, (part e arr off).run P w = .ok u w ∧ VRel G x u := by
  unfold aLoad at hl
  split at hl
  · cases hl
  · rename_i d hd
    have hlen := hr.length
    simp only [List.length_drop, Array.length_toList] at hlen
    split at hl
    · rename_i ha
      split at hl
      · rename_i n hn
        split at hl
        · rename_i hle
          simp only [Option.some.injEq] at hl; subst hl
          refine ⟨_, part_run hd hn arr off (by omega) (by simp [ha]), ?_⟩
          simp only [ha, if_true, VRel]
          refine ⟨_, rfl, ?_⟩
          rw [extract_toList]
          simpa using hr.take n
        · cases hl
      · cases hl
    · rename_i ha
      obtain ⟨u, hu, hrel⟩ := hr.get 0 x hl
      refine ⟨u, ?_, hrel⟩
      simp only [List.getElem?_drop, Nat.add_zero] at hu
      simp only [part, Sem.run_bind, run_isAgg hd, Result.andThen_ok, ha, Bool.false_eq_true, if_false]
      have hu' : arr[off]? = some u := by simpa using hu
      simp [hu']

theorem field_ok {t : TypeId} {f : Nat} {x y : AV} (hf : aField P t x f = some y) {v : Value} (hx : VRel G x v) : ∃ u, (Instr.field t v f).run P w = .ok u w ∧ VRel G y u := by
  unfold aField at hf
  split at hf
  · rename_i fd cs hfd
    obtain ⟨fs, hu, hg⟩ := fieldT_eq hfd
    simp only [VRel] at hx
    obtain ⟨arr, rfl, hr⟩ := hx
    by_cases hoff : fd.offset ≤ arr.size
    · obtain ⟨u, h1, h2⟩ := aLoad_part (w := w) (hr.drop fd.offset) hf hoff
      refine ⟨u, ?_, h2⟩
      simp only [Instr.field, Sem.run_bind, run_underlying hu, Result.andThen_ok, hg, asAgg, Sem.run_pure, h1]
    · have hl := hr.length
      simp only [Array.length_toList] at hl
      have hd : cs.drop fd.offset = [] := List.drop_eq_nil_of_le (by omega)
      rw [hd] at hf
      have he : VRels G ([] : List AV) (((#[] : Array Value)).toList.drop 0) := by simp [VRels]
      unfold aLoad at hf
      split at hf
      · cases hf
      · rename_i d hdd
        split at hf
        · rename_i ha
          split at hf
          · rename_i n hn
            split at hf
            · rename_i hle
              simp only [Option.some.injEq] at hf; subst hf
              simp at hle; subst hle
              refine ⟨.agg #[], ?_, by simp only [VRel]; exact ⟨#[], rfl, by simp [VRels]⟩⟩
              simp only [Instr.field, Sem.run_bind, run_underlying hu, Result.andThen_ok, hg, asAgg, Sem.run_pure, part, run_isAgg hdd, ha, if_true, run_sizeT hn]
              congr 2
              apply Array.ext'
              simp
            · cases hf
          · cases hf
        · simp at hf
  · cases hf

theorem index_ok {t : TypeId} {x ix y : AV} (hi : aIndex P t x ix = some y) {v vi : Value} (hx : VRel G x v) (hix : VRel G ix vi) : ∃ u, (Instr.index t v vi).run P w = .ok u w ∧ VRel G y u := by
  unfold aIndex at hi
  split at hi
  · rename_i k i cs n e hu
    simp only [VRel] at hix hx; subst hix
    obtain ⟨arr, rfl, hr⟩ := hx
    split at hi
    · rename_i z hz
      split at hi
      · rename_i hc
        by_cases hoff : i.toNat * z ≤ arr.size
        · obtain ⟨u, h1, h2⟩ := aLoad_part (w := w) (hr.drop (i.toNat * z)) hi hoff
          refine ⟨u, ?_, h2⟩
          simp [Instr.index, asIntOf, run_underlying hu, hc.1, hc.2, run_sizeT hz, h1]
        · have hl := hr.length
          simp only [Array.length_toList] at hl
          have hd : cs.drop (i.toNat * z) = [] := List.drop_eq_nil_of_le (by omega)
          rw [hd] at hi
          unfold aLoad at hi
          split at hi
          · cases hi
          · split at hi
            · split at hi
              · rename_i n0 hn0
                rw [hz] at hn0; cases hn0
                split at hi
                · rename_i hle
                  simp at hle; subst hle; simp at hoff
                · cases hi
              · cases hi
            · simp at hi
      · cases hi
    · cases hi
  · rename_i k i s hu
    simp only [VRel] at hix hx; subst hix hx
    split at hi
    · rename_i hc
      simp only [Option.some.injEq] at hi; subst hi
      have hlt : i.toNat < s.size := by omega
      refine ⟨.int .u8 (s[i.toNat]!).toNat, ?_, by simp [VRel]⟩
      simp [Instr.index, asIntOf, run_underlying hu, hc.1, hlt]
    · cases hi
  · cases hi
end
end Go.VM
end
section
/- Slices of slices; len, min, max. -/
namespace Go.VM
set_option linter.unusedSectionVars false
variable [Inhabited Globs]
section
variable {P : Program} {G : Ghost} {h : H} {w : World}

theorem len_ok (s : SRel G h w) {t : TypeId} {x y : AV} (hl : aLen P t x h = some y) {v : Value} (hx : VRel G x v) (ts : Array TypeId) (hts : ts[0]? = some t) (ty : TypeId) :
    ∃ u, (Builtin.len_ ts ty #[v]).run P w = .ok u w ∧ VRel G y u := by
  unfold aLen at hl
  split at hl
  · rename_i s0 hu
    simp only [VRel] at hx; subst hx
    simp only [Option.some.injEq] at hl; subst hl
    exact ⟨_, by simp [Builtin.len_, hts, run_underlying hu]; rfl, by simp [VRel, goInt]⟩
  · rename_i n e hu
    simp only [Option.some.injEq] at hl; subst hl
    exact ⟨_, by simp [Builtin.len_, hts, run_underlying hu]; rfl, by simp [VRel, goInt]⟩
  · rename_i e cs n r hu
    simp only [Option.some.injEq] at hl; subst hl
    simp only [VRel] at hx
    rcases hx with (⟨rfl, rfl, rfl, rfl⟩ | ⟨rfl, rfl, rfl, a, rfl⟩) | ⟨c, o, cap, vs, rfl, _⟩
    · exact ⟨_, by simp [Builtin.len_, hts, run_underlying hu]; rfl, by simp [VRel, goInt]⟩
    · exact ⟨_, by simp [Builtin.len_, hts, run_underlying hu]; rfl, by simp [VRel, goInt]⟩
    · exact ⟨_, by simp [Builtin.len_, hts, run_underlying hu]; rfl, by simp [VRel, goInt]⟩
  · rename_i e b o n cap z0 hu
    simp only [Option.some.injEq] at hl; subst hl
    simp only [VRel] at hx
    obtain ⟨c, _, _, rfl, _⟩ := hx
    exact ⟨_, by simp [Builtin.len_, hts, run_underlying hu]; rfl, by simp [VRel, goInt]⟩
  · rename_i k e hu
    simp only [Option.some.injEq] at hl; subst hl
    simp only [VRel] at hx; subst hx
    exact ⟨_, by simp [Builtin.len_, hts, run_underlying hu]; rfl, by simp [VRel, goInt]⟩
  · rename_i k e m hu
    rw [Option.map_eq_some_iff] at hl
    obtain ⟨M, hM, rfl⟩ := hl
    simp only [VRel] at hx
    obtain ⟨c, hc, rfl⟩ := hx
    obtain ⟨M', es, clock, h1, h2, h3, M2, h4, h5, _⟩ := s.map m c hc
    rw [hM] at h1; cases h1
    have : es.size = M.length := by rw [← h5, h4.length_eq]
    exact ⟨_, by simp [Builtin.len_, hts, run_underlying hu, getObj, Sem.run, h2]; rfl, by simp [VRel, goInt, this]⟩
  · cases hl

theorem minFold (mx : Bool) (k : IntKind) : ∀ (rest : List AV) (vs : List Value) (x r : Int), VRels G rest vs → minOf mx k x rest = some r →
    (vs.foldlM (if mx then Builtin.max2 else Builtin.min2) (.int k x)).run P w = .ok (.int k r) w
  | [], vs, x, r, hv, h => by
    simp only [VRels] at hv; subst hv
    simp only [minOf, Option.some.injEq] at h; subst h
    rfl
  | a :: rest, vs, x, r, hv, h => by
    simp only [VRels] at hv
    obtain ⟨v, vs', rfl, h1, h2⟩ := hv
    unfold minOf at h
    split at h
    · rename_i heq; cases heq
    · rename_i k' y rest' heq
      cases heq
      simp only [VRel] at h1; subst h1
      split at h
      · rename_i hk; subst hk
        have ih := minFold mx k _ vs' _ r h2 h
        rw [List.foldlM_cons, Sem.run_bind]
        cases mx <;> simpa [Builtin.min2, Builtin.max2, pick2] using ih
      · cases h
    · cases h

theorem min_ok (mx : Bool) {xs : List AV} {y : AV} (hm : aMin mx xs = some y) {vs : List Value} (hv : VRels G xs vs) (ts : Array TypeId) (ty : TypeId) :
    ∃ u, ((if mx then Builtin.max_ else Builtin.min_) ts ty vs.toArray).run P w = .ok u w ∧ VRel G y u := by
  unfold aMin at hm
  split at hm
  · rename_i k x rest
    rw [Option.map_eq_some_iff] at hm
    obtain ⟨r, hr, rfl⟩ := hm
    simp only [VRels] at hv
    obtain ⟨v, vs', rfl, h1, h2⟩ := hv
    simp only [VRel] at h1; subst h1
    have := minFold (P := P) (w := w) mx k rest vs' x r h2 hr
    refine ⟨.int k r, ?_, by simp [VRel]⟩
    cases mx <;> simpa [Builtin.min_, Builtin.max_] using this
  · cases hm

theorem bound_run {k : IntKind} {i : Int} {y : Nat} (h0 : 0 ≤ i) (h1 : i ≤ y) (code : BoundsCode) : (Instr.sliceBound (.int k i) y code).run P w = .ok i.toNat w := by
  simp [Instr.sliceBound, asIntOf, h0, h1]

theorem intOf_rel {x : Option AV} {v : Option Value} {i : Option Int} (hi : intOf? x = some i) (hx : (x = none ∧ v = none) ∨ ∃ a u, x = some a ∧ v = some u ∧ VRel G a u) :
    (i = none ∧ v = none) ∨ ∃ k n, i = some n ∧ v = some (.int k n) := by
  rcases hx with ⟨rfl, rfl⟩ | ⟨a, u, rfl, rfl, hr⟩
  · simp [intOf?] at hi; exact .inl ⟨hi.symm, rfl⟩
  · cases a <;> simp [intOf?] at hi
    simp only [VRel] at hr
    exact .inr ⟨_, _, hi.symm, by rw [hr]⟩

theorem opt_rel {A : List AV} {a : Act} (r : ARel G A a) (x : Option Operand) : (x.map (aev A) = none ∧ x.map a.eval = none) ∨ ∃ y u, x.map (aev A) = some y ∧ x.map a.eval = some u ∧ VRel G y u := by
  cases x with
  | none => exact .inl ⟨rfl, rfl⟩
  | some x => exact .inr ⟨_, _, rfl, rfl, aev_rel r x⟩

/-- the three bounds, where there is no max and the upper bound is at most what is known of the capacity -/
theorem bounds_run {len cap known : Nat} {isSlice : Bool} {lo hi : Option Int} {l k : Nat} (hb : aBounds known lo hi = some (l, k)) (hk : known ≤ cap) (hlen : hi = none → known = len)
    {vl vh : Option Value} (hl : (lo = none ∧ vl = none) ∨ ∃ k n, lo = some n ∧ vl = some (.int k n)) (hh : (hi = none ∧ vh = none) ∨ ∃ k n, hi = some n ∧ vh = some (.int k n)) :
    (Instr.sliceBounds isSlice len cap vl vh none).run P w = .ok (l, k, cap) w ∧ l ≤ k ∧ k ≤ known := by
  unfold aBounds at hb
  simp only at hb
  split at hb
  · rename_i hc
    simp only [Option.some.injEq, Prod.mk.injEq] at hb
    obtain ⟨rfl, rfl⟩ := hb
    obtain ⟨h1, h2, h3⟩ := hc
    refine ⟨?_, by omega, by omega⟩
    rcases hl with ⟨rfl, rfl⟩ | ⟨kl, nl, rfl, rfl⟩ <;> rcases hh with ⟨rfl, rfl⟩ | ⟨kh, nh, rfl, rfl⟩ <;> simp only [Option.getD_none, Option.getD_some] at *
    · simp [Instr.sliceBounds, hlen]
    · have b1 := bound_run (P := P) (w := w) (k := kh) (i := nh) (y := cap) h2 (by omega)
      simp [Instr.sliceBounds, b1]
    · have hkl := hlen trivial
      have b1 := bound_run (P := P) (w := w) (k := kl) (i := nl) (y := len) h1 (by omega)
      simp [Instr.sliceBounds, b1, hkl]
    · have b1 := bound_run (P := P) (w := w) (k := kh) (i := nh) (y := cap) (by omega) (by omega)
      have b2 := bound_run (P := P) (w := w) (k := kl) (i := nl) (y := nh.toNat) h1 (by omega)
      simp [Instr.sliceBounds, b1, b2]
  · cases hb

theorem bounds3_run {len cap : Nat} {isSlice : Bool} {lo : Option Int} {nh m : Int} {l k : Nat} {known : Nat} (hb : aBounds known lo (some nh) = some (l, k)) (hkm : (k : Int) ≤ m) (hm : m ≤ cap)
    {vl : Option Value} (hl : (lo = none ∧ vl = none) ∨ ∃ k n, lo = some n ∧ vl = some (.int k n)) (kh km : IntKind) :
    (Instr.sliceBounds isSlice len cap vl (some (.int kh nh)) (some (.int km m))).run P w = .ok (l, k, m.toNat) w ∧ l ≤ k ∧ k ≤ known := by
  unfold aBounds at hb
  simp only [Option.getD_some] at hb
  split at hb
  · rename_i hc
    simp only [Option.some.injEq, Prod.mk.injEq] at hb
    obtain ⟨rfl, rfl⟩ := hb
    obtain ⟨h1, h2, h3⟩ := hc
    refine ⟨?_, by omega, by omega⟩
    have b0 := bound_run (P := P) (w := w) (k := km) (i := m) (y := cap) (by omega) hm
    rcases hl with ⟨rfl, rfl⟩ | ⟨kl, nl, rfl, rfl⟩ <;> simp only [Option.getD_none, Option.getD_some] at *
    · have b1 := bound_run (P := P) (w := w) (k := kh) (i := nh) (y := m.toNat) (by omega) (by omega)
      simp [Instr.sliceBounds, b0, b1]
    · have b1 := bound_run (P := P) (w := w) (k := kh) (i := nh) (y := m.toNat) (by omega) (by omega)
      have b2 := bound_run (P := P) (w := w) (k := kl) (i := nl) (y := nh.toNat) h1 (by omega)
      simp [Instr.sliceBounds, b0, b1, b2]
  · cases hb
end
end Go.VM
end
section
/- The slice expression. -/
namespace Go.VM
set_option linter.unusedSectionVars false
variable [Inhabited Globs]
section
variable {P : Program} {G : Ghost} {h : H} {w : World}

theorem sub_rel {cs : List AV} {vs : List Value} {c o : Nat} (hr : VRels G cs vs) (hf : ∀ (i : Nat) (u : Value), vs[i]? = some u → G.fr c (o + i) = some u) (a n : Nat) :
    VRels G ((cs.drop a).take n) ((vs.drop a).take n) ∧ ∀ (i : Nat) (u : Value), ((vs.drop a).take n)[i]? = some u → G.fr c (o + a + i) = some u := by
  refine ⟨(hr.drop a).take n, fun i u hu => ?_⟩
  rw [List.getElem?_take] at hu
  split at hu
  · rw [List.getElem?_drop] at hu
    have := hf _ u hu
    rwa [show o + a + i = o + (a + i) from by omega]
  · cases hu

/-- cells of a slice expression over known cells -/
theorem slice_cells {cs : List AV} {vs : List Value} {c o z l k m : Nat} (hr : VRels G cs vs) (hf : ∀ (i : Nat) (u : Value), vs[i]? = some u → G.fr c (o + i) = some u) (hlk : l ≤ k) (hkm : k ≤ m) :
    ∃ o' vs', (if m = l then (⟨c, o, none⟩ : Addr) else (⟨c, o, none⟩ : Addr).add (l * z)) = ⟨c, o', none⟩ ∧ (l = 0 → o' = o) ∧ VRels G ((cs.drop (l * z)).take ((k - l) * z)) vs' ∧ ∀ (i : Nat) (u : Value), vs'[i]? = some u → G.fr c (o' + i) = some u := by
  by_cases hm : m = l
  · have hk : k - l = 0 := by omega
    refine ⟨o, [], by simp [hm], fun _ => rfl, ?_, by simp⟩
    simp [hk, VRels]
  · obtain ⟨h1, h2⟩ := sub_rel (c := c) (o := o) hr hf (l * z) ((k - l) * z)
    exact ⟨o + l * z, _, by rw [if_neg hm, addr_add], fun h => by simp [h], h1, h2⟩

theorem slice_ok {t : TypeId} {x y : AV} {lo hi mx : Option AV} (hs : aSlice P t x lo hi mx h = some y) {v : Value} (hx : VRel G x v) {vl vh vm : Option Value}
    (hl : (lo = none ∧ vl = none) ∨ ∃ a u, lo = some a ∧ vl = some u ∧ VRel G a u) (hh : (hi = none ∧ vh = none) ∨ ∃ a u, hi = some a ∧ vh = some u ∧ VRel G a u) (hmx : (mx = none ∧ vm = none) ∨ ∃ a u, mx = some a ∧ vm = some u ∧ VRel G a u) :
    ∃ u, (Instr.sliceAt t v vl vh vm).run P w = .ok u w ∧ VRel G y u := by
  unfold aSlice at hs
  split at hs
  · rename_i il ih im h1 h2 h3
    have il' := intOf_rel h1 hl
    have ih' := intOf_rel h2 hh
    have im' := intOf_rel h3 hmx
    split at hs
    · rename_i cs n r
      split at hs
      · rename_i e he
        have hu := elemT_eq he
        split at hs
        · rename_i z l k hz hb
          split at hs
          · -- no max
            have hvm : vm = none := by
              rcases im' with ⟨_, h⟩ | ⟨_, _, hc, _⟩
              · exact h
              · cases hc
            subst hvm
            simp only [VRel] at hx
            rcases hx with (⟨rfl, rfl, rfl, rfl⟩ | ⟨rfl, rfl, rfl, a, rfl⟩) | ⟨c, o, cap, vs, rfl, c1, c2, c3, c4, c5⟩
            · simp only [if_true] at hs
              split at hs
              · rename_i h0
                obtain ⟨rfl, rfl⟩ := h0
                simp only [Option.some.injEq] at hs; subst hs
                obtain ⟨hrun, _, _⟩ := bounds_run (P := P) (w := w) (len := 0) (cap := 0) (isSlice := true) hb (Nat.le_refl _) (fun _ => rfl) il' ih'
                exact ⟨.slice none 0 0, by simp [Instr.sliceAt, Instr.slice, run_underlying hu, hrun, run_sizeT hz], by simp [VRel]⟩
              · cases hs
            · simp only [reduceCtorEq, if_false, Option.some.injEq] at hs; subst hs
              obtain ⟨hrun, hlk, hkn⟩ := bounds_run (P := P) (w := w) (len := 0) (cap := 0) (isSlice := true) hb (Nat.le_refl _) (fun _ => rfl) il' ih'
              obtain rfl : k = 0 := by omega
              obtain rfl : l = 0 := by omega
              exact ⟨.slice (some a) 0 0, by simp [Instr.sliceAt, Instr.slice, run_underlying hu, hrun, run_sizeT hz], by simp only [VRel]; exact .inl (.inr ⟨by simp, by simp, by simp, a, rfl⟩)⟩
            · have hrn : r ≠ .nil := by intro e; subst e; exact c3
              rw [if_neg hrn] at hs
              simp only [Option.some.injEq] at hs; subst hs
              obtain ⟨hrun, hlk, hkn⟩ := bounds_run (P := P) (w := w) (len := n) (cap := cap) (isSlice := true) hb c1 (fun _ => rfl) il' ih'
              obtain ⟨o', vs', e1, e0, e2, e3⟩ := slice_cells (z := z) (m := cap) c4 c5 hlk (Nat.le_trans hkn c1)
              refine ⟨.slice (some ⟨c, o', none⟩) (k - l) (cap - l), ?_, ?_⟩
              · simp only [Instr.sliceAt, Instr.slice, Sem.run_bind, run_underlying hu, Result.andThen_ok, hrun, run_sizeT hz, Sem.run_pure]
                rw [← e1]
                split <;> simp
              · simp only [VRel]
                refine .inr ⟨c, o', cap - l, vs', rfl, by omega, by omega, ?_, e2, e3⟩
                split
                · rename_i h0
                  obtain ⟨rfl, rfl⟩ := h0
                  rw [e0 rfl]; simpa using c3
                · split
                  · rename_i h0
                    obtain ⟨rfl, rfl⟩ := h0
                    simp only [RoomOk] at c3 ⊢; omega
                  · trivial
          · -- a max
            rename_i m
            rcases im' with ⟨hc, _⟩ | ⟨km, m', hm', rfl⟩
            · cases hc
            cases hm'
            by_cases hrnil : r = .nil
            · rw [if_pos hrnil] at hs
              split at hs
              · rename_i hc
                obtain ⟨rfl, rfl, rfl, hhi⟩ := hc
                simp only [Option.some.injEq] at hs; subst hs
                simp only [VRel] at hx
                rcases hx with (⟨_, rfl, rfl, rfl⟩ | ⟨hre, _⟩) | ⟨c, o, cap, vs, rfl, c1, c2, c3, c4, c5⟩
                · rcases ih' with ⟨rfl, _⟩ | ⟨kh, nh, rfl, rfl⟩
                  · cases hhi
                  obtain ⟨hrun, _, _⟩ := bounds3_run (P := P) (w := w) (len := 0) (cap := 0) (isSlice := true) hb (m := 0) (by simp) (by simp) il' kh km
                  exact ⟨.slice none 0 0, by simp [Instr.sliceAt, Instr.slice, run_underlying hu, hrun, run_sizeT hz], by simp [VRel]⟩
                · rw [hrnil] at hre; cases hre
                · rw [hrnil] at c3; exact absurd c3 (by simp [RoomOk])
              · cases hs
            rw [if_neg hrnil] at hs
            split at hs
            · rename_i hc
              obtain ⟨hrn, hhi, hkm, hmn⟩ := hc
              simp only [Option.some.injEq] at hs; subst hs
              simp only [VRel] at hx
              rcases hx with (⟨rfl, _⟩ | ⟨rfl, _⟩) | ⟨c, o, cap, vs, rfl, c1, c2, c3, c4, c5⟩
              · exact absurd rfl hrn.1
              · exact absurd rfl hrn.2
              rcases ih' with ⟨rfl, _⟩ | ⟨kh, nh, rfl, rfl⟩
              · cases hhi
              obtain ⟨hrun, hlk, hkn⟩ := bounds3_run (P := P) (w := w) (len := n) (cap := cap) (isSlice := true) hb hkm (by omega) il' kh km
              obtain ⟨o', vs', e1, e0, e2, e3⟩ := slice_cells (z := z) (m := m.toNat) c4 c5 hlk (by omega)
              refine ⟨.slice (some ⟨c, o', none⟩) (k - l) (m.toNat - l), ?_, ?_⟩
              · simp only [Instr.sliceAt, Instr.slice, Sem.run_bind, run_underlying hu, Result.andThen_ok, hrun, run_sizeT hz, Sem.run_pure]
                rw [← e1]
                split <;> simp
              · simp only [VRel]
                refine .inr ⟨c, o', m.toNat - l, vs', rfl, by omega, by omega, ?_, e2, e3⟩
                split
                · rename_i h0
                  simp only [RoomOk]; omega
                · trivial
            · cases hs
        · cases hs
      · cases hs
    · rename_i b o n cap z0
      split at hs
      · rename_i e he
        have hu := elemT_eq he
        split at hs
        · rename_i z hz
          simp only [VRel] at hx
          obtain ⟨c, c1, cap', rfl, c2, c3, c4, c5⟩ := hx
          by_cases hzz : cap = noCap ∧ z0 ≠ z
          · rw [if_pos hzz] at hs; cases hs
          rw [if_neg hzz] at hs
          split at hs
          · have hvm : vm = none := by
              rcases im' with ⟨_, h⟩ | ⟨_, _, hc, _⟩
              · exact h
              · cases hc
            subst hvm
            split at hs
            · rename_i hcap
              obtain rfl : z0 = z := Classical.byContradiction fun q => hzz ⟨hcap, q⟩
              have c5 := c5 hcap
              split at hs
              · rename_i l k hb
                obtain ⟨hrun, hlk, hkn⟩ := bounds_run (P := P) (w := w) (len := n) (cap := cap') (isSlice := true) hb c2 (fun _ => rfl) il' ih'
                split at hs
                · rename_i hl0
                  subst hl0
                  simp only [Option.some.injEq] at hs; subst hs
                  refine ⟨.slice (some ⟨c.1, o, none⟩) k cap', ?_, ?_⟩
                  · simp only [Instr.sliceAt, Instr.slice, Sem.run_bind, run_underlying hu, Result.andThen_ok, hrun, run_sizeT hz, Sem.run_pure]
                    split <;> simp [addr_add]
                  · simp only [VRel]
                    exact ⟨c, c1, cap', rfl, by omega, c3, .inr (by trivial), fun _ => c5⟩
                · split at hs
                  · rename_i hln
                    simp only [Option.some.injEq] at hs; subst hs
                    refine ⟨.slice (some ⟨c.1, o + l * z0, none⟩) (k - l) (cap' - l), ?_, ?_⟩
                    · have hne : ¬ cap' = l := by omega
                      simp only [Instr.sliceAt, Instr.slice, Sem.run_bind, run_underlying hu, Result.andThen_ok, hrun, run_sizeT hz, Sem.run_pure, if_neg hne]
                      simp [addr_add]
                    · simp only [VRel]
                      exact ⟨c, c1, cap' - l, rfl, by omega, by omega, .inr (by trivial), fun _ => by
                        have : cap' = l + (cap' - l) := by omega
                        have e : cap' * z0 = l * z0 + (cap' - l) * z0 := by rw [← Nat.add_mul, ← this]
                        omega⟩
                  · simp only [Option.some.injEq] at hs; subst hs
                    have hk0 : k - l = 0 := by omega
                    refine ⟨.slice (some ⟨c.1, if cap' = l then o else o + l * z0, none⟩) (k - l) (cap' - l), ?_, ?_⟩
                    · simp only [Instr.sliceAt, Instr.slice, Sem.run_bind, run_underlying hu, Result.andThen_ok, hrun, run_sizeT hz, Sem.run_pure]
                      split <;> simp [addr_add]
                    · rw [hk0]
                      simp only [VRel]
                      exact .inr ⟨_, _, _, [], rfl, Nat.zero_le _, by omega, trivial, by simp [VRels], fun i u hu => by simp at hu⟩
              · cases hs
            · rename_i hcap
              have hcc : cap = cap' := c4.resolve_right hcap
              subst hcc
              split at hs
              · rename_i l k hb
                simp only [Option.some.injEq] at hs; subst hs
                have key : (Instr.sliceBounds true n cap vl vh none).run P w = .ok (l, k, cap) w ∧ l ≤ k ∧ k ≤ cap := by
                  rcases ih' with ⟨rfl, rfl⟩ | ⟨kh, nh, rfl, rfl⟩
                  · simp only [Option.isSome_none, Bool.false_eq_true, if_false, Option.getD_none] at hb
                    have hb' : aBounds n il none = some (l, k) := by simpa [aBounds] using hb
                    obtain ⟨q1, q2, q3⟩ := bounds_run (P := P) (w := w) (len := n) (cap := cap) (isSlice := true) hb' c2 (fun _ => rfl) il' (.inl ⟨rfl, rfl⟩)
                    exact ⟨q1, q2, by omega⟩
                  · simp only [Option.isSome_some, if_true, Option.getD_some] at hb
                    obtain ⟨q1, q2, q3⟩ := bounds_run (P := P) (w := w) (len := n) (cap := cap) (isSlice := true) hb (Nat.le_refl _) (fun h => by cases h) il' (.inr ⟨kh, nh, rfl, rfl⟩)
                    exact ⟨q1, q2, q3⟩
                obtain ⟨hrun, hlk, hkc⟩ := key
                refine ⟨.slice (some ⟨c.1, if cap = l then o else o + l * z, none⟩) (k - l) (cap - l), ?_, ?_⟩
                · simp only [Instr.sliceAt, Instr.slice, Sem.run_bind, run_underlying hu, Result.andThen_ok, hrun, run_sizeT hz, Sem.run_pure]
                  split <;> simp [addr_add]
                · simp only [VRel]
                  exact ⟨c, c1, cap - l, rfl, by omega, by omega, .inl rfl, fun q => by unfold noCap at q; omega⟩
              · cases hs
          · rename_i m
            rcases im' with ⟨hc, _⟩ | ⟨km, m', hm', rfl⟩
            · cases hc
            cases hm'
            split at hs
            · rename_i l k hb
              split at hs
              · rename_i hc
                obtain ⟨hhi, hkm, hmn⟩ := hc
                simp only [Option.some.injEq] at hs; subst hs
                rcases ih' with ⟨rfl, _⟩ | ⟨kh, nh, rfl, rfl⟩
                · cases hhi
                obtain ⟨hrun, hlk, hkn⟩ := bounds3_run (P := P) (w := w) (len := n) (cap := cap') (isSlice := true) hb hkm (by omega) il' kh km
                refine ⟨.slice (some ⟨c.1, if m.toNat = l then o else o + l * z, none⟩) (k - l) (m.toNat - l), ?_, ?_⟩
                · simp only [Instr.sliceAt, Instr.slice, Sem.run_bind, run_underlying hu, Result.andThen_ok, hrun, run_sizeT hz, Sem.run_pure]
                  split <;> simp [addr_add]
                · simp only [VRel]
                  exact ⟨c, c1, m.toNat - l, rfl, by omega, by omega, .inl rfl, fun q => by unfold noCap at q; omega⟩
              · cases hs
            · cases hs
        · cases hs
      · cases hs
    · rename_i b o
      split at hs
      · rename_i n e hu
        have hvm : vm = none := by
          rcases im' with ⟨_, h⟩ | ⟨_, _, hc, _⟩
          · exact h
          · cases hc
        subst hvm
        split at hs
        · rename_i z l k hz hb
          split at hs
          · rename_i hmax
            simp only [Option.some.injEq] at hs; subst hs
            simp only [VRel] at hx
            obtain ⟨c, c1, rfl⟩ := hx
            obtain ⟨hrun, hlk, hkc⟩ := bounds_run (P := P) (w := w) (len := n) (cap := n) (isSlice := false) hb (Nat.le_refl _) (fun _ => rfl) il' ih'
            refine ⟨.slice (some ⟨c.1, if n = l then o else o + l * z, none⟩) (k - l) (n - l), ?_, ?_⟩
            · simp only [Instr.sliceAt, Instr.sureAddr, Sem.run_bind, run_underlying hu, Result.andThen_ok, hrun, run_sizeT hz, Sem.run_pure]
              split <;> simp [addr_add]
            · simp only [VRel]
              exact ⟨c, c1, n - l, rfl, by omega, by omega, .inl rfl, fun q => by unfold noCap at q; omega⟩
          · cases hs
        · cases hs
      · cases hs
    · rename_i s0
      split at hs
      · rename_i l k hu hb
        have hvm : vm = none := by
          rcases im' with ⟨_, h⟩ | ⟨_, _, hc, _⟩
          · exact h
          · cases hc
        subst hvm
        simp only [Option.some.injEq] at hs; subst hs
        simp only [VRel] at hx; subst hx
        obtain ⟨hrun, hlk, hkn⟩ := bounds_run (P := P) (w := w) (len := s0.size) (cap := s0.size) (isSlice := false) hb (Nat.le_refl _) (fun _ => rfl) il' ih'
        refine ⟨.string (s0.extract l k), ?_, by simp [VRel]⟩
        simp [Instr.sliceAt, Instr.slice, run_underlying hu, hrun]
      · cases hs
    · cases hs
  · cases hs
end
end Go.VM
end
section
/- append. -/
namespace Go.VM
set_option linter.unusedSectionVars false
variable [Inhabited Globs]
section
variable {P : Program} {G : Ghost} {h : H} {w : World}

def setTok (toks : List Nat) (k n : Nat) : List Nat := if k = toks.length then toks ++ [n] else toks.set k n
theorem setTok_get (toks : List Nat) (k n t : Nat) (hk : k ≤ toks.length) : (setTok toks k n)[t]? = if t = k then some n else toks[t]? := by
  unfold setTok
  split
  · rename_i e; subst e
    split
    · rename_i e; subst e; simp
    · rename_i e
      rcases Nat.lt_or_gt_of_ne e with h | h
      · rw [List.getElem?_append_left h]
      · rw [List.getElem?_eq_none (by simp; omega), List.getElem?_eq_none (by omega)]
  · rename_i e
    split
    · rename_i e'; subst e'; simp [List.getElem?_set]; omega
    · rename_i e'; rw [List.getElem?_set_ne (Ne.symm e')]
theorem setTok_len (toks : List Nat) (k n : Nat) (hk : k ≤ toks.length) : (setTok toks k n).length = max toks.length (k + 1) := by
  unfold setTok; split <;> simp <;> omega

/-- a token comes to stand at a block (new, or the one that it had) -/
theorem SRel.tokAt (s : SRel G h w) {k n : Nat} (hk : k ≤ h.toks.length) {c cap z : Nat} {cur : Array Value} {e : TypeId} (hh : w.heap[c]? = some (.cells cur e (0, 0))) (hs : cur.size = cap * z) (hn : n ≤ cap) (hc : cap ≤ maxLen)
    (hfr : ∀ o v, G.fr c o = some v → o < n * z) (hφ : ∀ b s, G.φ b ≠ some (c, s)) (hoth : ∀ t m cap' z', t ≠ k → h.toks[t]? = some m → G.tk t m ≠ some (c, cap', z')) (hnew : ∀ m, h.toks[k]? = some m → m < n)
    (hbase : ∀ β ∈ G.bases, k = h.toks.length ∨ True) :
    ∃ G', G.Le G' ∧ G'.fr = G.fr ∧ G'.φ = G.φ ∧ G'.tk k n = some (c, cap, z) ∧ SRel G' { h with toks := setTok h.toks k n } w ∧ G'.bases = G.bases ∧
      (∀ c', Own G' { h with toks := setTok h.toks k n } c' → Own G h c' ∨ c' = c) := by
  have hfresh : G.tk k n = none := by
    cases hq : G.tk k n with
    | none => rfl
    | some x =>
      have hlt := s.dom.tk k n x hq
      obtain ⟨m, hm⟩ : ∃ m, h.toks[k]? = some m := ⟨h.toks[k], by simp [hlt]⟩
      have h1 := s.tkle k n x hq m hm
      have h2 := hnew m hm
      omega
  let G' : Ghost := { G with tk := fun t m => if t = k ∧ m = n then some (c, cap, z) else G.tk t m }
  have hle : G.Le G' := by
    refine ⟨fun _ _ h => h, fun _ _ _ h => h, fun t m x hx => ?_, fun _ _ h => h⟩
    show (if t = k ∧ m = n then _ else _) = _
    rw [if_neg]
    · exact hx
    · rintro ⟨rfl, rfl⟩; rw [hfresh] at hx; cases hx
  have hget := fun t => setTok_get h.toks k n t hk
  have hlen := setTok_len h.toks k n hk
  have htk : ∀ t m x, G'.tk t m = some x → (t = k ∧ m = n ∧ x = (c, cap, z)) ∨ G.tk t m = some x := fun t m x hx => by
    by_cases hq : t = k ∧ m = n
    · left; simp [G', hq] at hx; exact ⟨hq.1, hq.2, hx.symm⟩
    · right; simpa [G', hq] using hx
  have htok : ∀ t m x, (setTok h.toks k n)[t]? = some m → G'.tk t m = some x → (t = k ∧ m = n ∧ x = (c, cap, z)) ∨ (t ≠ k ∧ h.toks[t]? = some m ∧ G.tk t m = some x) := fun t m x h1 h2 => by
    rw [hget] at h1
    split at h1
    · rename_i e1; subst e1
      cases h1
      rcases htk _ _ _ h2 with ⟨_, _, rfl⟩ | h3
      · exact .inl ⟨rfl, rfl, rfl⟩
      · rw [hfresh] at h3; cases h3
    · rename_i e1
      rcases htk _ _ _ h2 with ⟨e2, _⟩ | h3
      · exact absurd e2 e1
      · exact .inr ⟨e1, h1, h3⟩
  refine ⟨G', hle, rfl, rfl, by simp [G'], ?_, rfl, ?_⟩
  · refine ⟨⟨s.dom.φ, fun t m x hx => ?_, s.dom.mp⟩, ?_, ?_, ?_, s.fr, s.injφ, s.φfr, ?_, ?_, ?_, s.injmp, ?_⟩
    · show t < (setTok h.toks k n).length
      rw [hlen]
      rcases htk t m x hx with ⟨rfl, _⟩ | h1
      · omega
      · have := s.dom.tk t m x h1; omega
    · intro b c' hb
      obtain ⟨cs, arr, e', h1, h2, h2', h3⟩ := s.blk b c' hb
      exact ⟨cs, arr, e', h1, h2, h2', VRels.mono hle _ _ h3⟩
    · intro t m ht
      simp only at ht
      rw [hget] at ht
      split at ht
      · rename_i e1; subst e1
        cases ht
        exact ⟨c, cap, z, cur, e, by simp [G'], hh, hs, hn, hc, hfr⟩
      · rename_i e1
        obtain ⟨c', cap', size, cur', e', h1, h2⟩ := s.tok t m ht
        exact ⟨c', cap', size, cur', e', hle.tk _ _ _ h1, h2⟩
    · intro m c' hm
      obtain ⟨M, es, clock, h1, h2, h3⟩ := s.map m c' hm
      exact ⟨M, es, clock, h1, h2, h3.mono hle⟩
    · intro b c' t m cap' sz hb ht hk'
      rcases htok t m _ ht hk' with ⟨rfl, rfl, e1⟩ | ⟨_, h1, h2⟩
      · exact hφ b c'.2 (by cases e1; exact hb)
      · exact s.φtk b c' t m cap' sz hb h1 h2
    · intro t m x hx cu ht
      simp only at ht
      rw [hget] at ht
      split at ht
      · rename_i e1; subst e1
        cases ht
        rcases htk t m x hx with ⟨_, rfl, _⟩ | h1
        · exact Nat.le_refl _
        · have hlt := s.dom.tk t m x h1
          obtain ⟨m', hm'⟩ : ∃ m, h.toks[t]? = some m := ⟨h.toks[t], by simp [hlt]⟩
          have := s.tkle t m x h1 m' hm'
          have := hnew m' hm'
          omega
      · rename_i e1
        rcases htk t m x hx with ⟨e2, _⟩ | h1
        · exact absurd e2 e1
        · exact s.tkle t m x h1 cu ht
    · intro t t' m m' c' cap1 s1 cap2 s2 ht ht' hk1 hk2
      rcases htok t m _ ht hk1 with ⟨rfl, rfl, e1⟩ | ⟨n1, h1, h2⟩ <;> rcases htok t' m' _ ht' hk2 with ⟨rfl, rfl, e2⟩ | ⟨n2, h3, h4⟩
      · rfl
      · cases e1; exact absurd h4 (hoth t' m' _ _ n2 h3)
      · cases e2; exact absurd h2 (hoth t m _ _ n1 h1)
      · exact s.injtk t t' m m' c' cap1 s1 cap2 s2 h1 h3 h2 h4
    · intro β hβ
      obtain ⟨h1, h2, h3, h4⟩ := s.bases β hβ
      refine ⟨h1, ?_, h3, h4⟩
      show β.2.1 ≤ (setTok h.toks k n).length
      rw [hlen]; omega
  · intro c' ho
    rcases ho with ⟨b, sb, hb⟩ | ⟨t, m, cap', sz, ht, hk'⟩ | ho
    · exact .inl (.inl ⟨b, sb, hb⟩)
    · rcases htok t m _ ht hk' with ⟨_, _, e1⟩ | ⟨_, h1, h2⟩
      · cases e1; exact .inr rfl
      · exact .inl (.inr (.inl ⟨t, m, cap', sz, h1, h2⟩))
    · exact .inl (.inr (.inr ho))

/-- a source of cells: nil, or known cells -/
theorem src_rel (s : SRel G h w) {z : Nat} {y : AV} {ys : List AV} {m : Nat} (hy : slCells h z y = some (ys, m)) (hl : ys.length = m * z) {v : Value} (hv : VRel G y v) :
    ((v = .slice none 0 0 ∨ ∃ a, v = .slice (some a) 0 0) ∧ m = 0 ∧ ys = []) ∨ ∃ c o cap vs, v = .slice (some ⟨c, o, none⟩) m cap ∧ VRels G ys vs ∧ ∀ j u, vs[j]? = some u → w.cell? ⟨c, o + j, none⟩ = some u := by
  unfold slCells at hy
  split at hy
  · rename_i cs n r
    simp only [Option.some.injEq, Prod.mk.injEq] at hy
    obtain ⟨rfl, rfl⟩ := hy
    simp only [VRel] at hv
    rcases hv with (⟨_, rfl, rfl, rfl⟩ | ⟨_, rfl, rfl, a, rfl⟩) | ⟨c, o, cap, vs, rfl, h1, h2, h3, h4, h5⟩
    · exact .inl ⟨.inl rfl, rfl, rfl⟩
    · exact .inl ⟨.inr ⟨a, rfl⟩, rfl, rfl⟩
    · exact .inr ⟨c, o, cap, vs, rfl, h4, fun j u hu => s.fr _ _ _ (h5 j u hu)⟩
  · rename_i b o n cap z0
    split at hy
    · rename_i old hold
      split at hy
      · rename_i hle
        simp only [Option.some.injEq, Prod.mk.injEq] at hy
        obtain ⟨rfl, rfl⟩ := hy
        simp only [VRel] at hv
        obtain ⟨c, hc, cap', rfl, _⟩ := hv
        obtain ⟨cs, arr, e, h1, h2, _, h3⟩ := s.blk b c hc
        rw [hold] at h1; cases h1
        refine .inr ⟨c.1, o, cap', ((arr.toList.take old.length).drop o).take (n * z), rfl, (h3.drop o).take _, fun j u hu => ?_⟩
        rw [cell_of_row w c.1 _ arr e (0, 0) h2]
        rw [List.getElem?_take] at hu
        split at hu
        · rw [List.getElem?_drop, List.getElem?_take] at hu
          split at hu
          · simpa using hu
          · cases hu
        · cases hu
      · cases hy
    · cases hy
  · cases hy
end
end Go.VM
end
section
/- append, whole. -/
namespace Go.VM
set_option linter.unusedSectionVars false
variable [Inhabited Globs]
section
variable {P : Program} {G : Ghost} {h : H} {w : World}

theorem run_append_in {t ty e : TypeId} {i : TypeInfo} (ht : P.underlying t = some (.slice e)) (hi : P.info? e = some i) {g sLen sCap : Nat} {cur : Array Value} {e' : TypeId} (hg : w.heap[g]? = some (.cells cur e' (0, 0)))
    {a : Addr} {m c : Nat} {news : List Value} (hl : news.length = m * i.size) (hnews : ∀ j u, news[j]? = some u → w.cell? (a.add j) = some u) (h1 : ∀ u ∈ news, u.oneCell' = true)
    (hroom : sLen + m ≤ sCap) (hfit : sLen * i.size + news.length ≤ cur.size) :
    (Builtin.append_ #[t, t] ty #[.slice (some ⟨g, 0, none⟩) sLen sCap, .slice (some a) m c]).run P w =
      .ok (.slice (some ⟨g, 0, none⟩) (sLen + m) sCap) (w.setRow g (cur.toList.take (sLen * i.size) ++ news ++ cur.toList.drop (sLen * i.size + news.length)).toArray) := by
  have hf := run_firstCells_some (P := P) w i.size m a m c news hl hnews
  have hst := run_storeCells_at P g (sLen * i.size) e' news 0 cur w hg (by simpa using hfit) h1
  simp only [Nat.add_zero] at hst
  simp [Builtin.append_, run_underlying ht, sizeOf, typeInfo, hi, Builtin.lenOf, hroom, hf, Addr.add_lit, hst]

theorem run_append_none {t ty e : TypeId} {i : TypeInfo} (ht : P.underlying t = some (.slice e)) (hi : P.info? e = some i) {b : Option Addr} {sLen sCap : Nat} (hle : sLen ≤ sCap) {y : Value} (hy : y = .slice none 0 0 ∨ ∃ a c, y = .slice (some a) 0 c) :
    (Builtin.append_ #[t, t] ty #[.slice b sLen sCap, y]).run P w = .ok (.slice b sLen sCap) w := by
  rcases hy with rfl | ⟨a, c, rfl⟩
  · cases b <;> simp [Builtin.append_, run_underlying ht, sizeOf, typeInfo, hi, Builtin.lenOf, hle, Builtin.firstCells, storeCells]
  · have hf := run_firstCells_some (P := P) w i.size 0 a 0 c [] (by simp) (by simp)
    cases b <;> simp [Builtin.append_, run_underlying ht, sizeOf, typeInfo, hi, Builtin.lenOf, hle, hf, storeCells]

/-- a new row whose first cells stay, under a token -/
theorem SRel.newRow (s : SRel G h w) {k n : Nat} (hk : k ≤ h.toks.length) (hnew : ∀ m, h.toks[k]? = some m → m < n) {cs : List AV} {vs : List Value} {cap z : Nat} (e : TypeId) (rest : Array Value) (hv : VRels G cs vs) (hl : vs.length = n * z)
    (hs : (vs.toArray ++ rest).size = cap * z) (hn : n ≤ cap) (hc : cap ≤ maxLen) :
    ∃ G', SRel G' { h with toks := setTok h.toks k n } (w.alloc (.cells (vs.toArray ++ rest) e)) ∧ Step G h w G' { h with toks := setTok h.toks k n } (w.alloc (.cells (vs.toArray ++ rest) e)) ∧
      VRel G' (.sl cs n (.tok k z)) (.slice (some ⟨w.heap.size, 0, none⟩) n cap) := by
  have s1 := s.garbage (.cells (vs.toArray ++ rest) e)
  have hnofr : ∀ o v, G.fr w.heap.size o ≠ some v := fun o v hq => absurd (s.fr_lt hq) (Nat.lt_irrefl _)
  have hle1 : G.Le (G.freeze w.heap.size (fun i => vs[i]?)) := Ghost.freeze_le (fun o v u _ h2 => absurd h2 (hnofr o u))
  have s2 := s1.freezeAt w.heap.size (fun i => vs[i]?) (fun o v hv => by
      rw [World.cell?_alloc_new]
      have hlt : o < vs.length := (List.getElem?_eq_some_iff.1 hv).1
      rw [Array.getElem?_append_left (by simpa using hlt)]
      simpa using hv)
    (fun b sb hb => absurd (s.φ_lt hb) (Nat.lt_irrefl _))
    (fun t n cap sz ht hk => absurd (s.own_lt (.inr (.inl ⟨t, n, cap, sz, ht, hk⟩))) (Nat.lt_irrefl _))
  obtain ⟨G', hle, hfr, hφe, htk, s3, hbs, hown⟩ := s2.tokAt (c := w.heap.size) (cap := cap) (z := z) hk (heap_alloc_new w _) hs hn hc
    (fun o v hq => by
      simp only [Ghost.freeze, if_true] at hq
      split at hq
      · rename_i u hu
        have := (List.getElem?_eq_some_iff.1 hu).1
        omega
      · exact absurd hq (hnofr o v))
    (fun b sb hb => absurd (s.φ_lt hb) (Nat.lt_irrefl _))
    (fun t m cap' z' _ ht hq => absurd (s.own_lt (.inr (.inl ⟨t, m, cap', z', ht, hq⟩))) (Nat.lt_irrefl _))
    hnew (fun _ _ => .inr trivial)
  refine ⟨G', s3, ?_, ?_⟩
  · refine ⟨hle1.trans hle, rfl, rfl, rfl, by simp, fun c hc _ => heap_alloc_old w _ c hc, fun c ho => ?_, hbs, ⟨fun b c hb _ => by rw [hφe] at hb; exact hb, Nat.le_refl _⟩, fun c o v hv => by
      rw [hfr] at hv
      simp only [Ghost.freeze] at hv
      split at hv
      · rename_i e; exact .inr (.inl (by omega))
      · exact .inl hv⟩
    rcases hown c ho with h1 | rfl
    · exact .inl h1
    · exact .inr (Nat.le_refl _)
  · simp only [VRel]
    refine .inr ⟨w.heap.size, 0, cap, vs, rfl, hn, hc, ⟨rfl, htk⟩, VRels.mono (hle1.trans hle) _ _ hv, fun i u hu => ?_⟩
    rw [hfr]
    simp [Ghost.freeze, hu]

/-- the spare cells of a token's row are written -/
theorem SRel.spare (s : SRel G h w) {k n : Nat} (hk : h.toks[k]? = some n) {c cap z : Nat} (htk : G.tk k n = some (c, cap, z)) {cur : Array Value} {e : TypeId} (hh : w.heap[c]? = some (.cells cur e (0, 0))) {arr' : Array Value}
    (hsz : arr'.size = cur.size) (hold : ∀ o, o < n * z → arr'[o]? = cur[o]?) : SRel G h (w.setRow c arr') ∧ Step G h w G h (w.setRow c arr') := by
  have hoth : ∀ k', k' ≠ c → (w.setRow c arr').heap[k']? = w.heap[k']? := fun k' hk' => setRow_other w c k' _ hk'
  obtain ⟨c0, cap0, size0, cur0, e0, q1, q2, q3, q4, q5, q6⟩ := s.tok k n hk
  rw [htk] at q1; cases q1
  rw [hh] at q2; cases q2
  refine ⟨⟨s.dom, ?_, ?_, ?_, ?_, s.injφ, s.φfr, s.φtk, s.tkle, s.injtk, s.injmp, s.bases⟩, ?_⟩
  · intro b c' hb
    obtain ⟨cs, arr, e', h1, h2, h3⟩ := s.blk b c' hb
    exact ⟨cs, arr, e', h1, by rw [hoth c'.1 (fun e3 => by subst e3; exact s.φtk b c' k n cap z hb hk htk)]; exact h2, h3⟩
  · intro t m ht
    obtain ⟨c', cap', size, cur', e', h1, h2, h3, h4⟩ := s.tok t m ht
    by_cases e1 : c' = c
    · subst e1
      have := s.injtk t k m n c' cap' size cap z ht hk h1 htk
      subst this
      rw [hk] at ht; cases ht
      rw [htk] at h1; cases h1
      exact ⟨c', cap, z, arr', e, htk, setRow_heap w c' cur arr' e _ hh, by omega, h4⟩
    · exact ⟨c', cap', size, cur', e', h1, by rw [hoth c' e1]; exact h2, h3, h4⟩
  · intro m c' hm
    obtain ⟨M, es, clock, h1, h2, h3⟩ := s.map m c' hm
    exact ⟨M, es, clock, h1, by rw [hoth c' (fun e3 => by subst e3; rw [hh] at h2; cases h2)]; exact h2, h3⟩
  · intro c' i v hf
    by_cases e1 : c' = c
    · subst e1
      have hlt := q6 i v hf
      have := s.fr c' i v hf
      rw [cell_of_row w c' i cur e (0, 0) hh] at this
      rw [cell_of_row _ c' i arr' e (0, 0) (setRow_heap w c' cur arr' e _ hh), hold i hlt]; exact this
    · rw [World.cell?_of_block (w := w) (a := ⟨c', i, none⟩) (hoth c' e1)]; exact s.fr c' i v hf
  · exact ⟨.refl G, rfl, rfl, rfl, by simp, fun k' hk' hno => hoth k' (fun e3 => hno (.inr (.inl ⟨k, n, cap, z, hk, e3 ▸ htk⟩))), fun k' ho => .inl ho, rfl, ⟨fun _ _ h _ => h, Nat.le_refl _⟩, fun _ _ _ h => .inl h⟩

/-- a new block that may be written, of which more may be there than is known -/
theorem SRel.newBlk (s : SRel G h w) {cs : List AV} {vs : List Value} {n cap z : Nat} (e : TypeId) (rest : Array Value) (hv : VRels G cs vs)
    (hs : (vs.toArray ++ rest).size = cap * z) (hn : n ≤ cap) (hc : cap ≤ maxLen) :
    ∃ G', SRel G' { h with blk := h.blk ++ [cs] } (w.alloc (.cells (vs.toArray ++ rest) e)) ∧ Step G h w G' { h with blk := h.blk ++ [cs] } (w.alloc (.cells (vs.toArray ++ rest) e)) ∧
      VRel G' (.msl h.blk.length 0 n noCap z) (.slice (some ⟨w.heap.size, 0, none⟩) n cap) := by
  obtain ⟨G', q1, q2, q3⟩ := s.alloc' (cs := cs) (arr := vs.toArray ++ rest) e (by
    rw [hv.length]; simpa using hv)
  refine ⟨G', q1, q2, ?_⟩
  simp only [VRel]
  exact ⟨_, q3, cap, rfl, hn, hc, .inr (by trivial), fun _ => by rw [hs]; omega⟩

theorem setTok_new (toks : List Nat) (n : Nat) : setTok toks toks.length n = toks ++ [n] := by simp [setTok]
theorem setTok_old {toks : List Nat} {k n m : Nat} (hk : toks[k]? = some m) : setTok toks k n = toks.set k n := by
  have := (List.getElem?_eq_some_iff.1 hk).1
  unfold setTok; rw [if_neg (by omega)]

theorem append_ok (s : SRel G h w) {t t' ty : TypeId} {x y r : AV} {h' : H} (ha : aAppend P t t' x y h = some (r, h')) {vx vy : Value} (hx : VRel G x vx) (hy : VRel G y vy) :
    RunOk P G h w (Builtin.append_ #[t, t'] ty #[vx, vy]) r h' := by
  unfold aAppend at ha
  split at ha
  · cases ha
  rename_i htt
  have htt : t = t' := by simpa using htt
  subst htt
  split at ha
  · rename_i e he
    have hu := elemT_eq he
    split at ha
    · rename_i i z hi hz
      obtain ⟨i', zv, hi', hzv, hrun, hrel⟩ := run_zero (w := w) hz
      rw [hi] at hi'; cases hi'
      have fresh : ∀ {h1 : H}, SRel G h1 w → ∀ (n m : Nat) (ys : List AV) (vs : List Value), VRels G ys vs → vs.length = m * i.size → z.length = i.size → n + m ≤ maxLen → ∀ (old : Nat) (xs : List AV) (xv : List Value), VRels G xs xv → xv.length = n * i.size →
          ∃ G', SRel G' { h1 with blk := h1.blk ++ [xs ++ ys] } (w.drew.alloc (.cells (xv.toArray ++ vs.toArray ++ Builtin.zeroCells zv.cells (grownCap w (n + m) old e - (n + m))) e)) ∧
            Step G h1 w G' { h1 with blk := h1.blk ++ [xs ++ ys] } (w.drew.alloc (.cells (xv.toArray ++ vs.toArray ++ Builtin.zeroCells zv.cells (grownCap w (n + m) old e - (n + m))) e)) ∧
            VRel G' (.msl h1.blk.length 0 (n + m) noCap i.size) (.slice (some ⟨w.heap.size, 0, none⟩) (n + m) (grownCap w (n + m) old e)) := by
        intro h1 s1 n m ys vs hvs hvl hzl c7 old xs xv hxv hxl
        have hzs : zv.cells.size = i.size := by have := (hrel G).length; simp at this; omega
        have hge := grownCap_ge w (n + m) old e
        have hcm : grownCap w (n + m) old e ≤ maxLen := grownCap_le_maxLen w (n + m) old e c7
        obtain ⟨G', q1, q2, q3⟩ := s1.drew.newBlk (n := n + m) (cs := xs ++ ys) (vs := xv ++ vs) (cap := grownCap w (n + m) old e) (z := i.size) e (Builtin.zeroCells zv.cells (grownCap w (n + m) old e - (n + m))) (hxv.append hvs)
          (by
            simp only [Array.size_append, List.size_toArray, List.length_append, size_zeroCells, hzs]
            have : xv.length + vs.length = (n + m) * i.size := by rw [Nat.add_mul]; omega
            rw [this, ← Nat.add_mul]; congr 1; omega) hge hcm
        have e1 : (xv ++ vs).toArray = xv.toArray ++ vs.toArray := by simp
        rw [e1] at q1 q2
        exact ⟨G', q1, (Step.drawn G h1 w _).trans q2, q3⟩
      split at ha
      · rename_i ys m b o n cap z0 hsrc
        split at ha
        · rename_i cs hcs
          split at ha
          · rename_i hcond
            obtain ⟨c1, c2, c3, c5, c6, c7, c8, rfl⟩ := hcond
            simp only [VRel] at hx
            obtain ⟨c, hφ, cap', rfl, h1, h2, h3, h4⟩ := hx
            obtain ⟨cs1, arr, e', k1, k2, k3, k4⟩ := s.blk b c hφ
            rw [hcs] at k1; cases k1
            have hsy := src_rel s hsrc c3 hy
            rcases hsy with ⟨_, hm0, _⟩ | ⟨c2', o2, cap2, vs, rfl, hvs, hcell⟩
            · omega
            have hvl := hvs.length
            have hvlen : vs.length = m * i.size := by omega
            have hnews : ∀ (j : Nat) (u : Value), vs[j]? = some u → w.cell? ((⟨c2', o2, none⟩ : Addr).add j) = some u := fun j u hu => by rw [addr_add]; exact hcell j u hu
            have hmax : n + m ≤ 9223372036854775807 := by simp only [maxLen] at c7; omega
            have hb47 : (n + m) * i.bytes ≤ 140737488355328 := c6
            have hk4 := k4.length
            have hal : cs.length ≤ arr.size := by
              rw [List.length_take] at hk4
              have : arr.toList.length = arr.size := Array.length_toList
              omega
            split at ha
            · rename_i hcap
              subst hcap
              have h4 := h4 rfl
              have main : ∀ xs : List AV, xs = cs.take (n * i.size) → o = 0 → n * i.size ≤ cs.length → 0 < cs.length → r = .msl h.blk.length 0 (n + m) noCap i.size → h' = { h with blk := h.blk.set b [] ++ [xs ++ ys] } →
                  RunOk P G h w (Builtin.append_ #[t, t] ty #[.slice (some ⟨c.1, o, none⟩) n cap', .slice (some ⟨c2', o2, none⟩) m cap2]) r h' := by
                intro xs hxs ho hl hn0 hr hh
                subst ho; subst hr; subst hh
                have hne : h.blk[b]? ≠ some [] := fun q => by
                  rw [hcs] at q; cases q
                  simp at hn0
                have k4' : VRels G xs (arr.toList.take (n * i.size)) := by
                  have := k4.take (n * i.size)
                  rw [hxs]
                  rwa [List.take_take, Nat.min_eq_left hl] at this
                have hxl : (arr.toList.take (n * i.size)).length = n * i.size := by
                  simp only [List.length_take, Array.length_toList]; omega
                have hxsl : xs.length = n * i.size := by rw [hxs, List.length_take]; omega
                by_cases hroom : n + m ≤ cap'
                · have hmul : (n + m) * i.size ≤ cap' * i.size := Nat.mul_le_mul_right _ hroom
                  rw [Nat.add_mul] at hmul
                  have hfit : n * i.size + vs.length ≤ arr.size := by omega
                  have hrun1 := run_append_in (P := P) (ty := ty) hu hi k2 (a := ⟨c2', o2, none⟩) (c := cap2) hvlen hnews (rels_one hvs c5) hroom hfit
                  have hsz : (arr.toList.take (n * i.size) ++ vs ++ arr.toList.drop (n * i.size + vs.length)).toArray.size = arr.size := by
                    simp only [List.size_toArray, List.length_append, List.length_take, List.length_drop, Array.length_toList]; omega
                  obtain ⟨G', q1, q2, q3⟩ := s.growIn hφ hne k2 (cs' := xs ++ ys) hsz (by
                    have e1 : (arr.toList.take (n * i.size) ++ vs).length = (xs ++ ys).length := by
                      simp only [List.length_append, List.length_take, Array.length_toList]; omega
                    rw [List.toList_toArray, ← e1, List.take_left]
                    exact k4'.append hvs)
                  refine ⟨_, _, G', hrun1, q2, q1, ?_⟩
                  simp only [VRel]
                  exact ⟨c, q3, cap', rfl, hroom, h2, .inr (by trivial), fun _ => by omega⟩
                · obtain ⟨s1, st1⟩ := s.kill hφ
                  obtain ⟨G', q1, q2, q3⟩ := fresh s1 n m ys vs hvs hvlen c1 c7 cap' xs _ k4' hxl
                  have e1 : (h.blk.set b []).length = h.blk.length := by simp
                  rw [e1] at q3
                  refine ⟨_, _, G', ?_, st1.trans q2, q1, q3⟩
                  exact run_append_grow (P := P) w t ty e i zv hu hi hzv ⟨c.1, 0, none⟩ n cap' _ hxl (fun j u hq => by
                    rw [addr_add, cell_of_row w c.1 _ arr e' (0, 0) k2]
                    rw [List.getElem?_take] at hq
                    split at hq
                    · simpa using hq
                    · cases hq) ⟨c2', o2, none⟩ m cap2 vs hvlen hnews (by omega) (by omega) (growslice_fits (by omega) hb47)
              split at ha
              · rename_i hcc
                obtain ⟨ho, hl, hn0⟩ := hcc
                simp only [Option.some.injEq, Prod.mk.injEq] at ha
                obtain ⟨hr, hh⟩ := ha
                have := Nat.mul_pos hn0 c2
                exact main cs (by rw [← hl, List.take_length]) ho (by omega) (by omega) hr.symm hh.symm
              · split at ha
                · rename_i hcc
                  obtain ⟨ho, hl⟩ := hcc
                  simp only [Option.some.injEq, Prod.mk.injEq] at ha
                  obtain ⟨hr, hh⟩ := ha
                  exact main _ rfl ho (by omega) (by omega) hr.symm hh.symm
                · cases ha
            · rename_i hcap
              obtain rfl : cap = cap' := h3.resolve_right hcap
              split at ha
              · rename_i hcc
                obtain ⟨hgt, hin⟩ := hcc
                simp only [Option.some.injEq, Prod.mk.injEq] at ha
                obtain ⟨rfl, rfl⟩ := ha
                have hxv := (k4.drop o).take (n * i.size)
                have hxl : (((arr.toList.take cs.length).drop o).take (n * i.size)).length = n * i.size := by
                  simp only [List.length_take, List.length_drop, Array.length_toList]; omega
                obtain ⟨G', q1, q2, q3⟩ := fresh s n m ys vs hvs hvlen c1 c7 cap _ _ hxv hxl
                refine ⟨_, _, G', ?_, q2, q1, q3⟩
                exact run_append_grow (P := P) w t ty e i zv hu hi hzv ⟨c.1, o, none⟩ n cap _ hxl (fun j u hq => by
                  rw [addr_add, cell_of_row w c.1 _ arr e' (0, 0) k2]
                  rw [List.getElem?_take] at hq
                  split at hq
                  · rw [List.getElem?_drop, List.getElem?_take] at hq
                    split at hq
                    · simpa using hq
                    · cases hq
                  · cases hq) ⟨c2', o2, none⟩ m cap2 vs hvlen hnews (by omega) (by omega) (growslice_fits (by omega) hb47)
              · cases ha
          · cases ha
        · cases ha
      · rename_i ys m xs n rm hsrc
        split at ha
        · rename_i hc
          obtain ⟨c1, c2, c3, c4, c5, c6, c7⟩ := hc
          have hsy := src_rel s hsrc c3 hy
          split at ha
          · rename_i hm; subst hm
            simp only [Option.some.injEq, Prod.mk.injEq] at ha
            obtain ⟨rfl, rfl⟩ := ha
            have hy0 : vy = .slice none 0 0 ∨ ∃ a c, vy = .slice (some a) 0 c := by
              rcases hsy with ⟨rfl | ⟨a, rfl⟩, _⟩ | ⟨c, o, cap, vs, rfl, _⟩
              · exact .inl rfl
              · exact .inr ⟨_, _, rfl⟩
              · exact .inr ⟨_, _, rfl⟩
            have hx' := hx
            simp only [VRel] at hx'
            rcases hx' with (⟨_, _, rfl, rfl⟩ | ⟨_, _, rfl, a, rfl⟩) | ⟨c, o, cap, vs, rfl, h1, _⟩
            · exact RunOk.quiet s (run_append_none hu hi (Nat.le_refl _) hy0) hx
            · exact RunOk.quiet s (run_append_none hu hi (Nat.le_refl _) hy0) hx
            · exact RunOk.quiet s (run_append_none hu hi h1 hy0) hx
          · rename_i hm
            rcases hsy with ⟨_, hm0, _⟩ | ⟨c2, o2, cap2, vs, rfl, hvs, hcell⟩
            · exact absurd hm0 hm
            have hvl := hvs.length
            have hnews : ∀ (j : Nat) (u : Value), vs[j]? = some u → w.cell? ((⟨c2, o2, none⟩ : Addr).add j) = some u := fun j u hu => by rw [addr_add]; exact hcell j u hu
            have hvlen : vs.length = m * i.size := by omega
            have hzs : zv.cells.size = i.size := by have := (hrel G).length; simp at this; omega
            have hmax : n + m ≤ 9223372036854775807 := by simp only [maxLen] at c7; omega
            have hb47 : (n + m) * i.bytes ≤ 140737488355328 := c6
            -- the ways in which a new row is made
            have grown : ∀ (k : Nat), k ≤ h.toks.length → (∀ q, h.toks[k]? = some q → q < n + m) → ∀ (old : Nat) (xv : List Value), VRels G xs xv → 
                RunOk P G h w (Sem.pure (.slice none 0 0)) (.sl [] 0 .nil) h → 
                ∃ G', SRel G' { h with toks := setTok h.toks k (n + m) } (w.drew.alloc (.cells (xv.toArray ++ vs.toArray ++ Builtin.zeroCells zv.cells (grownCap w (n + m) old e - (n + m))) e)) ∧
                  Step G h w G' { h with toks := setTok h.toks k (n + m) } (w.drew.alloc (.cells (xv.toArray ++ vs.toArray ++ Builtin.zeroCells zv.cells (grownCap w (n + m) old e - (n + m))) e)) ∧
                  VRel G' (.sl (xs ++ ys) (n + m) (.tok k i.size)) (.slice (some ⟨w.heap.size, 0, none⟩) (n + m) (grownCap w (n + m) old e)) := by
              intro k hk hq old xv hxv _
              have hge := grownCap_ge w (n + m) old e
              have hcm : grownCap w (n + m) old e ≤ maxLen := grownCap_le_maxLen w (n + m) old e c7
              have hxl := hxv.length
              obtain ⟨G', q1, q2, q3⟩ := s.drew.newRow (n := n + m) hk hq (cs := xs ++ ys) (vs := xv ++ vs) (cap := grownCap w (n + m) old e) (z := i.size) e (Builtin.zeroCells zv.cells (grownCap w (n + m) old e - (n + m))) (hxv.append hvs)
                (by simp [Nat.add_mul]; omega) (by
                  simp only [Array.size_append, List.size_toArray, List.length_append, size_zeroCells, hzs]
                  have : xv.length + vs.length = (n + m) * i.size := by rw [Nat.add_mul]; omega
                  rw [this, ← Nat.add_mul]; congr 1; omega) hge hcm
              have e1 : (xv ++ vs).toArray = xv.toArray ++ vs.toArray := by simp
              rw [e1] at q1 q2
              exact ⟨G', q1, (Step.drawn G h w _).trans q2, q3⟩
            have triv : RunOk P G h w (Sem.pure (.slice none 0 0)) (.sl [] 0 .nil) h := RunOk.quiet s rfl (by simp [VRel])
            simp only [VRel] at hx
            split at ha
            · -- nil
              split at ha
              · simp only [Option.some.injEq, Prod.mk.injEq] at ha
                obtain ⟨rfl, rfl⟩ := ha
                rcases hx with (⟨_, rfl, rfl, rfl⟩ | ⟨hq, _⟩) | ⟨c, o, cap, xv, rfl, h1, h2, h3, h4, h5⟩
                · obtain ⟨G', q1, q2, q3⟩ := fresh s 0 m ys vs hvs hvlen c1 c7 0 [] [] (by simp [VRels]) (by simp)
                  refine ⟨_, _, G', ?_, q2, q1, q3⟩
                  have := run_append_nil (P := P) w t ty e i zv hu hi hzv ⟨c2, o2, none⟩ m cap2 vs hvlen hnews (by omega) (by omega) (by simp at hb47; omega)
                  simpa using this
                · cases hq
                · exact absurd h3 (by simp [RoomOk])
              simp only [Option.some.injEq, Prod.mk.injEq] at ha
              obtain ⟨rfl, rfl⟩ := ha
              rcases hx with (⟨_, rfl, rfl, rfl⟩ | ⟨hq, _⟩) | ⟨c, o, cap, xv, rfl, h1, h2, h3, h4, h5⟩
              · obtain ⟨G', q1, q2, q3⟩ := grown h.toks.length (Nat.le_refl _) (fun q hq => by simp at hq) 0 [] (by simp [VRels]) triv
                rw [setTok_new] at q1 q2
                refine ⟨_, _, G', ?_, q2, q1, q3⟩
                have := run_append_nil (P := P) w t ty e i zv hu hi hzv ⟨c2, o2, none⟩ m cap2 vs hvlen hnews (by omega) (by omega) (by simp at hb47; omega)
                simpa using this
              · cases hq
              · exact absurd h3 (by simp [RoomOk])
            · -- full
              split at ha
              · simp only [Option.some.injEq, Prod.mk.injEq] at ha
                obtain ⟨rfl, rfl⟩ := ha
                rcases hx with (⟨hq, _⟩ | ⟨hq, _⟩) | ⟨c, o, cap, xv, rfl, h1, h2, h3, h4, h5⟩
                · cases hq
                · cases hq
                · simp only [RoomOk] at h3; subst h3
                  have hxl := h4.length
                  obtain ⟨G', q1, q2, q3⟩ := fresh s cap m ys vs hvs hvlen c1 c7 cap xs xv h4 (by omega)
                  refine ⟨_, _, G', ?_, q2, q1, q3⟩
                  exact run_append_grow (P := P) w t ty e i zv hu hi hzv ⟨c, o, none⟩ cap cap xv (by omega) (fun j u hu => by rw [addr_add]; exact s.fr _ _ _ (h5 j u hu)) ⟨c2, o2, none⟩ m cap2 vs hvlen hnews (by omega) (by omega)
                    (growslice_fits (by omega) hb47)
              simp only [Option.some.injEq, Prod.mk.injEq] at ha
              obtain ⟨rfl, rfl⟩ := ha
              rcases hx with (⟨hq, _⟩ | ⟨hq, _⟩) | ⟨c, o, cap, xv, rfl, h1, h2, h3, h4, h5⟩
              · cases hq
              · cases hq
              · simp only [RoomOk] at h3; subst h3
                obtain ⟨G', q1, q2, q3⟩ := grown h.toks.length (Nat.le_refl _) (fun q hq => by simp at hq) cap xv h4 triv
                rw [setTok_new] at q1 q2
                refine ⟨_, _, G', ?_, q2, q1, q3⟩
                have hxl := h4.length
                exact run_append_grow (P := P) w t ty e i zv hu hi hzv ⟨c, o, none⟩ cap cap xv (by omega) (fun j u hu => by rw [addr_add]; exact s.fr _ _ _ (h5 j u hu)) ⟨c2, o2, none⟩ m cap2 vs hvlen hnews (by omega) (by omega)
                  (growslice_fits (by omega) hb47)
            · -- a token
              rename_i k z'
              split at ha
              · rename_i hcond
                obtain ⟨hk, rfl⟩ := hcond
                simp only [Option.some.injEq, Prod.mk.injEq] at ha
                obtain ⟨rfl, rfl⟩ := ha
                have hklt : k < h.toks.length := (List.getElem?_eq_some_iff.1 hk).1
                rcases hx with (⟨hq, _⟩ | ⟨hq, _⟩) | ⟨c, o, cap, xv, rfl, h1, h2, h3, h4, h5⟩
                · cases hq
                · cases hq
                · obtain ⟨rfl, htk⟩ := h3
                  obtain ⟨c', cap', size', cur, e', k1, k2, k3, k4, k5, k6⟩ := s.tok k n hk
                  rw [htk] at k1; cases k1
                  have hxl := h4.length
                  by_cases hroom : n + m ≤ cap
                  · -- in place
                    have hmul : (n + m) * i.size ≤ cap * i.size := Nat.mul_le_mul_right _ hroom
                    rw [Nat.add_mul] at hmul
                    have hfit : n * i.size + vs.length ≤ cur.size := by omega
                    have hrun1 := run_append_in (P := P) (ty := ty) hu hi k2 (a := ⟨c2, o2, none⟩) (c := cap2) hvlen hnews (rels_one hvs c5) hroom hfit
                    have hcl : cur.toList.length = cur.size := by simp
                    have hsz : (cur.toList.take (n * i.size) ++ vs ++ cur.toList.drop (n * i.size + vs.length)).toArray.size = cur.size := by
                      simp only [List.size_toArray, List.length_append, List.length_take, List.length_drop]; omega
                    obtain ⟨s1, st1⟩ := s.spare hk htk k2 (arr' := (cur.toList.take (n * i.size) ++ vs ++ cur.toList.drop (n * i.size + vs.length)).toArray) hsz (fun o ho => by
                      simp only [List.getElem?_toArray]
                      rw [List.append_assoc, List.getElem?_append_left (by simp; omega), List.getElem?_take, if_pos ho]
                      simp)
                    have hrow := setRow_heap w c cur (cur.toList.take (n * i.size) ++ vs ++ cur.toList.drop (n * i.size + vs.length)).toArray e' (0, 0) k2
                    obtain ⟨G', hle, hfr, hφe, htk', s2, hbs, hown⟩ := s1.tokAt (k := k) (n := n + m) (c := c) (cap := cap) (z := i.size) (by omega) hrow (by omega) hroom h2
                      (fun o v hq => by have := k6 o v hq; rw [Nat.add_mul]; omega) (fun b sb hb => s.φtk b (c, sb) k n cap i.size hb hk htk)
                      (fun t q cap' z' hne ht hq => hne (s.injtk t k q n c cap' z' cap i.size ht hk hq htk))
                      (fun q hq => by rw [hk] at hq; cases hq; omega) (fun _ _ => .inr trivial)
                    rw [setTok_old hk] at s2 hown
                    have hnofr : ∀ o v, n * i.size ≤ o → G'.fr c o ≠ some v := fun o v hno hq => by rw [hfr] at hq; have := k6 o v hq; omega
                    have hle2 : G'.Le (G'.freeze c (fun o => if n * i.size ≤ o then vs[o - n * i.size]? else none)) := Ghost.freeze_le (fun o v u q1 q2 => by
                      split at q1
                      · rename_i hno; exact absurd q2 (hnofr o u hno)
                      · cases q1)
                    have s3 := s2.freezeAt c (fun o => if n * i.size ≤ o then vs[o - n * i.size]? else none) (fun o v q1 => by
                        split at q1
                        · rename_i hno
                          have hlt := (List.getElem?_eq_some_iff.1 q1).1
                          rw [cell_of_row _ c o _ e' (0, 0) hrow]
                          simp only [List.getElem?_toArray]
                          rw [List.append_assoc, List.getElem?_append_right (by simp; omega)]
                          have e1 : (cur.toList.take (n * i.size)).length = n * i.size := by simp; omega
                          rw [e1, List.getElem?_append_left hlt]; exact q1
                        · cases q1)
                      (fun b sb hb => absurd hb (fun hb => by
                        exact (s2.φtk b (c, sb) k (n + m) cap i.size hb (by simp [List.getElem?_set, hklt])) htk'))
                      (fun t q cap1 z1 ht hq o v q1 => by
                        have := s2.injtk t k q (n + m) c cap1 z1 cap i.size ht (by simp [List.getElem?_set, hklt]) hq htk'
                        subst this
                        simp [List.getElem?_set, hklt] at ht
                        subst ht
                        rw [htk'] at hq; cases hq
                        split at q1
                        · have hlt := (List.getElem?_eq_some_iff.1 q1).1
                          rw [Nat.add_mul]; omega
                        · cases q1)
                    refine ⟨_, _, _, hrun1, ?_, s3, ?_⟩
                    · refine st1.trans ⟨hle.trans hle2, rfl, rfl, rfl, Nat.le_refl _, fun _ _ _ => rfl, fun c' ho => ?_, hbs, ⟨fun b c hb _ => by rw [← hφe]; exact hb, Nat.le_refl _⟩, fun c' o v hv => by
                        simp only [Ghost.freeze] at hv
                        split at hv
                        · rename_i ec; subst ec; exact .inr (.inr (.inr (.inl ⟨k, n, cap, i.size, hk, htk⟩)))
                        · rw [hfr] at hv; exact .inl hv⟩
                      rcases hown c' ho with q | rfl
                      · exact .inl q
                      · exact .inl (.inr (.inl ⟨k, n, cap, i.size, hk, htk⟩))
                    · simp only [VRel]
                      refine .inr ⟨c, 0, cap, xv ++ vs, rfl, hroom, h2, ⟨rfl, hle2.tk _ _ _ htk'⟩, VRels.mono (hle.trans hle2) _ _ (h4.append hvs), fun j u hu => ?_⟩
                      have hxn : xv.length = n * i.size := by omega
                      by_cases hj : j < xv.length
                      · rw [List.getElem?_append_left hj] at hu
                        exact (hle.trans hle2).fr _ _ _ (h5 j u hu)
                      · rw [List.getElem?_append_right (by omega)] at hu
                        simp only [Ghost.freeze, if_true, Nat.zero_add]
                        rw [if_pos (by omega), ← hxn, hu]
                  · obtain ⟨G', q1, q2, q3⟩ := grown k (by omega) (fun q hq => by rw [hk] at hq; cases hq; omega) cap xv h4 triv
                    rw [setTok_old hk] at q1 q2
                    refine ⟨_, _, G', ?_, q2, q1, q3⟩
                    exact run_append_grow (P := P) w t ty e i zv hu hi hzv ⟨c, 0, none⟩ n cap xv (by omega) (fun j u hu => by rw [addr_add]; exact s.fr _ _ _ (h5 j u hu)) ⟨c2, o2, none⟩ m cap2 vs hvlen hnews (by omega) (by omega)
                      (growslice_fits (by omega) hb47)
              · cases ha
            · cases ha
            · cases ha
        · cases ha
      · cases ha
    · cases ha
  · cases ha
end
end Go.VM
end
section
/- Maps. -/
namespace Go.VM
set_option linter.unusedSectionVars false
variable [Inhabited Globs]
section
variable {P : Program} {G : Ghost} {h : H} {w : World}

theorem ba_beq (a b : ByteArray) : (a == b) = true ↔ a = b := by
  rw [beq_toListBytes, beq_iff_eq, ByteArray.toList_eq, ByteArray.toList_eq]
  obtain ⟨⟨x⟩⟩ := a
  obtain ⟨⟨y⟩⟩ := b
  simp

theorem eq1_true {k : Kd} {x y : AV} (h : eq1 k x y = some true) : x = y := by
  cases k <;> cases x <;> cases y <;> simp only [eq1, reduceCtorEq, Option.some.injEq, beq_iff_eq] at h
  · subst h; rfl
  · split at h
    · rename_i hk; subst hk; simp at h; subst h; rfl
    · cases h
  · rw [(ba_beq _ _).1 h]
theorem eqs_true : ∀ {ks : List Kd} {xs ys : List AV}, eqs ks xs ys = some true → xs = ys
  | [], [], [], _ => rfl
  | k :: ks, x :: xs, y :: ys, h => by
    simp only [eqs] at h
    split at h
    · rename_i a b h1 h2
      simp only [Option.some.injEq, Bool.and_eq_true] at h
      obtain ⟨rfl, rfl⟩ := h
      rw [eq1_true h1, eqs_true h2]
    · cases h
  | [], [], _ :: _, h | [], _ :: _, _, h | _ :: _, [], _, h | _ :: _, _ :: _, [], h => by simp [eqs] at h
theorem eq1_self {k : Kd} {x y : AV} {b : Bool} (h : eq1 k x y = some b) : eq1 k x x = some true := by
  cases k <;> cases x <;> cases y <;> simp only [eq1, reduceCtorEq] at h <;> simp [eq1, ba_beq]
theorem eqs_self : ∀ {ks : List Kd} {xs ys : List AV} {b : Bool}, eqs ks xs ys = some b → eqs ks xs xs = some true
  | [], [], [], _, _ => rfl
  | k :: ks, x :: xs, y :: ys, b, h => by
    simp only [eqs] at h
    split at h
    · rename_i a c h1 h2
      simp [eqs, eq1_self h1, eqs_self h2]
    · cases h
  | [], [], _ :: _, _, h | [], _ :: _, _, _, h | _ :: _, [], _, _, h | _ :: _, _ :: _, [], _, h => by simp [eqs] at h

theorem cells_not {x : AV} {xs : List AV} (hx : x.cells? = some xs) (ha : x.isAgg = false) : xs = [x] := by
  cases x <;> simp [AV.cells?, AV.isAgg] at hx ha <;> exact hx.symm
theorem cells_agg {x : AV} {xs : List AV} (hx : x.cells? = some xs) (ha : x.isAgg = true) : x = .agg xs := by
  cases x <;> simp [AV.cells?, AV.isAgg] at hx ha
  subst hx; rfl
theorem cells_inj {x y : AV} {xs : List AV} (hx : x.cells? = some xs) (hy : y.cells? = some xs) (ha : x.isAgg = y.isAgg) : x = y := by
  cases h : x.isAgg
  · have h1 := cells_not hx h
    have h2 := cells_not hy (ha ▸ h)
    rw [h1] at h2; simpa using h2
  · rw [cells_agg hx h, cells_agg hy (ha ▸ h)]

theorem aEq_true {t : TypeId} {x y : AV} (h : aEq P t x y = some true) : x = y := by
  unfold aEq at h
  split at h
  · rename_i ks xs ys h1 h2 h3
    split at h
    · rename_i hc
      have := eqs_true h; subst this
      exact cells_inj h2 h3 (hc.1.symm.trans hc.2)
    · cases h
  · cases h
theorem aEq_self {t : TypeId} {x y : AV} {b : Bool} (h : aEq P t x y = some b) : aEq P t x x = some true := by
  unfold aEq at h ⊢
  split at h
  · rename_i ks xs ys h1 h2 h3
    split at h
    · rename_i hc
      simp only [h1, h2, hc.1, and_self, if_true]
      exact eqs_self h
    · cases h
  · cases h
theorem aEq_false {t : TypeId} {x y : AV} (h : aEq P t x y = some false) : x ≠ y := fun e => by
  subst e
  have := aEq_self h
  rw [h] at this; cases this

theorem keyOk_spec {kt : TypeId} {k : AV} {M : List (AV × AV)} (h : keyOk P kt k M = true) : aEq P kt k k = some true ∧ k.key = true ∧ ∀ kv ∈ M, aEq P kt k kv.1 = some (keyIs P kt k kv) ∧ (keyIs P kt k kv = true ↔ kv.1 = k) := by
  simp only [keyOk, Bool.and_eq_true, beq_iff_eq, List.all_eq_true] at h
  obtain ⟨⟨h1, h2⟩, h3⟩ := h
  refine ⟨h1, h2, fun kv hkv => ?_⟩
  obtain ⟨b, hb⟩ := Option.isSome_iff_exists.1 (h3 kv hkv)
  unfold keyIs
  rw [hb]
  cases b
  · simp; exact fun e => aEq_false hb e.symm
  · simp; exact (aEq_true hb).symm

/-- one value alone stands for a key -/
theorem key1_rel {a : AV} (ha : a.key1 = true) {v : Value} (h : VRel G a v) : (∀ G' v', VRel G' a v' → v' = v) ∧ ∀ n, Instr.sameBits n v v = true := by
  cases a <;> simp only [AV.key1, Bool.false_eq_true] at ha <;> simp only [VRel] at h <;> subst h <;>
    refine ⟨fun G' v' h' => by simpa only [VRel] using h', fun n => ?_⟩ <;> cases n <;> simp [Instr.sameBits, ba_beq]

theorem keys_rel : ∀ {as : List AV} {vs : List Value}, as.all AV.key1 = true → VRels G as vs → (∀ G' vs', VRels G' as vs' → vs' = vs) ∧ ∀ n, (vs.zip vs).all (fun (x, y) => Instr.sameBits n x y) = true
  | [], vs, _, h => by
    simp only [VRels] at h; subst h
    exact ⟨fun G' vs' h' => by simpa only [VRels] using h', fun n => by simp⟩
  | a :: as, vs, ha, h => by
    simp only [List.all_cons, Bool.and_eq_true] at ha
    simp only [VRels] at h
    obtain ⟨v, vs0, rfl, h1, h2⟩ := h
    obtain ⟨k1, k2⟩ := key1_rel ha.1 h1
    obtain ⟨k3, k4⟩ := keys_rel ha.2 h2
    refine ⟨fun G' vs' h' => ?_, fun n => by simp only [List.zip_cons_cons, List.all_cons, k2, k4, Bool.and_self]⟩
    simp only [VRels] at h'
    obtain ⟨v', vs1, rfl, q1, q2⟩ := h'
    rw [k1 _ _ q1, k3 _ _ q2]

theorem key_rel {a : AV} (ha : a.key = true) {v : Value} (h : VRel G a v) : (∀ G' v', VRel G' a v' → v' = v) ∧ ∀ n, Instr.sameBits (n + 1) v v = true := by
  cases a
  case agg cs =>
    simp only [AV.key] at ha
    simp only [VRel] at h
    obtain ⟨vs, rfl, hs⟩ := h
    obtain ⟨k1, k2⟩ := keys_rel ha hs
    refine ⟨fun G' v' h' => ?_, fun n => by simp [Instr.sameBits]; intro a b hab; have := List.all_eq_true.1 (k2 n) (a, b) hab; simpa using this⟩
    simp only [VRel] at h'
    obtain ⟨vs', rfl, hs'⟩ := h'
    have := k1 _ _ hs'
    rw [show vs' = vs from Array.toList_inj.1 this]
  all_goals (simp only [AV.key] at ha; exact ⟨(key1_rel ha h).1, fun n => (key1_rel ha h).2 _⟩)
end
end Go.VM
end
