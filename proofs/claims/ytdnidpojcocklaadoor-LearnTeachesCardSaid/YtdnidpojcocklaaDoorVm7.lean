/- Own texts on reading the model, joined: VmX, VmY, VmZ, VmM6, VmX2, VmX3, VmRf, VmZ2, VmZ3, VmGm, VmPr, VmRc, VmNd, VmPp, VmFm, VmGl. -/
import Derived.Test.YtdnidpojcocklaaDoorVm6
import Derived.Carry
import Derived.WideShapes
import Derived.ChangeSlices
import Derived.Test.YtdnidpojcocklaaDoorVm3
import Derived.LoopNIn
import Derived.OrdersIn
import Derived.RangeFuncRecord
import Derived.OpenShut
import Derived.ProofKit
import Derived.LaidLaws
import Derived.Lay
set_option linter.unusedSimpArgs false
set_option linter.unusedVariables false
set_option linter.unnecessarySimpa false
section
/- Slices of integers, rows and small arrays as abstract values, whatever the program. -/
namespace Go.VM
set_option linter.unusedSectionVars false
variable [Inhabited Globs]

abbrev small (x : Int) : Prop := -100000 ≤ x ∧ x ≤ 100000
abbrev tiny (x : Int) : Prop := -1000 ≤ x ∧ x ≤ 1000
/-- it fits an int -/
abbrev rng (x : Int) : Prop := -9223372036854775808 ≤ x ∧ x ≤ 9223372036854775807
abbrev I (n : Int) : AV := .int .i64 n
abbrev i0 : Int := 0
def ints (l : List Int) : List AV := l.map I

@[simp] theorem ints_len (l : List Int) : (ints l).length = l.length := by simp [ints]
@[simp] theorem ints_nil : ints [] = [] := rfl
@[simp] theorem ints_cons (x : Int) (l : List Int) : ints (x :: l) = I x :: ints l := rfl
theorem ints_drop (l : List Int) (n : Nat) : (ints l).drop n = ints (l.drop n) := by simp [ints]
@[simp] theorem ints_get (l : List Int) (i : Nat) : (ints l)[i]? = (l[i]?).map I := by simp [ints]
theorem ints_inj {l m : List Int} (h : ints l = ints m) : l = m := by
  induction l generalizing m with
  | nil => cases m with
    | nil => rfl
    | cons x m => simp at h
  | cons x l ih => cases m with
    | nil => simp at h
    | cons y m =>
      simp only [ints_cons, List.cons.injEq, AV.int.injEq, true_and] at h
      rw [h.1, ih h.2]
@[simp] theorem ints_bnds (l : List Int) (a b c : Nat) : AV.bnds a b c (ints l) = true := by
  rw [AV.bnds_iff]; intro x hx; simp [ints] at hx; obtain ⟨n, _, rfl⟩ := hx; simp [AV.bnd]
@[simp] theorem ints_one (l : List Int) : (ints l).all AV.one = true := by
  rw [List.all_eq_true]; intro x hx; simp [ints] at hx; obtain ⟨n, _, rfl⟩ := hx; rfl
@[simp] theorem ints_frz (l : List Int) (a b : Nat) (h : H) (k : Nat) : (ints l).map (frz a b h (k + 1)) = ints l := by
  simp [ints, List.map_map]; intro a _; rfl
@[simp] theorem ints_eq {l m : List Int} : ints l = ints m ↔ l = m := ⟨ints_inj, fun h => by rw [h]⟩
/-- the room of a slice that holds these -/
def rok {α : Type} (l : List α) (r : Room) : Prop := l ≠ [] → r ≠ .nil
/-- rows: slices of integers; nil, or empty at any address, or not -/
inductive RK where
  | l | n | e
  deriving DecidableEq, Inhabited
def RK.mt : RK → Bool
  | .l => false
  | _ => true
/-- what a copy is -/
def RK.cl : RK → RK
  | .n => .n
  | _ => .l
abbrev Row := List Int × RK
def rr : RK → Room
  | .l => .no
  | .n => .nil
  | .e => .e
def rowA (x : Row) : AV := .sl (ints x.1) x.1.length (rr x.2)
def rowsA (t : List Row) : List AV := t.map rowA
@[simp] theorem rowsA_len (t : List Row) : (rowsA t).length = t.length := by simp [rowsA]
@[simp] theorem rowsA_get (t : List Row) (i : Nat) : (rowsA t)[i]? = (t[i]?).map rowA := by simp [rowsA]
@[simp] theorem rowsA_bnds (t : List Row) : AV.bnds 0 0 0 (rowsA t) = true := by
  rw [AV.bnds_iff]; intro x hx; simp only [rowsA, List.mem_map] at hx; obtain ⟨⟨l, b⟩, _, rfl⟩ := hx
  cases b <;> simp [rowA, AV.bnd, Room.bnd, rr]
theorem rowA_inj {x y : Row} (h : rowA x = rowA y) : x = y := by
  obtain ⟨l, b⟩ := x; obtain ⟨m, c⟩ := y
  simp only [rowA, AV.sl.injEq] at h
  obtain ⟨h1, _, h3⟩ := h
  rw [ints_inj h1]
  cases b <;> cases c <;> simp_all [rr]
theorem rowsA_inj {t u : List Row} (h : rowsA t = rowsA u) : t = u := by
  induction t generalizing u with
  | nil => cases u with
    | nil => rfl
    | cons y u => simp [rowsA] at h
  | cons x t ih => cases u with
    | nil => simp [rowsA] at h
    | cons y u =>
      simp only [rowsA, List.map_cons, List.cons.injEq] at h
      rw [rowA_inj h.1, ih h.2]
@[simp] theorem rowsA_eq {t u : List Row} : rowsA t = rowsA u ↔ t = u := ⟨rowsA_inj, fun h => by rw [h]⟩
section
variable {P : Program}
theorem el_of {t : TypeId} (h : (elemT P t).bind (sizeT P) = some 1) : ∃ e, P.underlying t = some (.slice e) ∧ sizeT P e = some 1 := by
  unfold elemT at h
  split at h
  · exact ⟨_, by assumption, h⟩
  · cases h
theorem wr (x : Int) (h : -9223372036854775808 ≤ x) (h' : x ≤ 9223372036854775807) : IntKind.i64.wrap x = x := w64 x h h'
theorem ix_ints {t : TypeId} (hu : (elemT P t).bind (sizeT P) = some 1) {l : List Int} {n : Nat} {r : Room} {k : IntKind} {i : Nat} (h : i < n) (hr : r ≠ .nil) :
    aIndexAddr P t (.sl (ints l) n r) (.int k i) = some (.cptr (ints (l.drop i))) := by
  obtain ⟨e, hu, hs⟩ := el_of hu
  simp [aIndexAddr, hr, h, ints_drop, hu, hs]
theorem ld_ints {t : TypeId} (hu : (P.underlying t).isSome = true) (ha : isAggT P t = false) {l : List Int} {i : Nat} (h : i < l.length) :
    aLoad P t (ints (l.drop i)) = some (I (l.getD i i0)) := by
  cases hq : P.underlying t with
  | none => rw [hq] at hu; cases hu
  | some u => simp [aLoad, hq, ha, h]
end

/-- rooms and tokens of a slice under way -/
def rm {α : Type} (t : Nat) : List α → Room
  | [] => .nil
  | _ :: _ => .tok t 1
def tk {α : Type} : List α → List Nat
  | [] => []
  | x :: l => [(x :: l).length]
/-- a type of slices whose elements are one cell -/
def appT (P : Program) (t : TypeId) : Bool :=
  match elemT P t with
  | some e => match P.info? e, zeroCs P e with
    | some i, some z => i.size == 1 && decide (i.bytes ≤ 24) && z.length == 1 && !appW t
    | _, _ => false
  | none => false
section
variable {P : Program}
theorem appT_of {t : TypeId} (h : appT P t = true) : ∃ e i z, elemT P t = some e ∧ P.info? e = some i ∧ zeroCs P e = some z ∧ i.size = 1 ∧ i.bytes ≤ 24 ∧ z.length = 1 ∧ appW t = false := by
  unfold appT at h
  split at h
  · rename_i e he
    split at h
    · rename_i i z hi hz
      simp only [Bool.and_eq_true, beq_iff_eq, decide_eq_true_eq, Bool.not_eq_true'] at h
      exact ⟨e, i, z, he, hi, hz, h.1.1.1, h.1.1.2, h.1.2, h.2⟩
    · cases h
  · cases h
theorem app_new {t : TypeId} (hT : appT P t = true) {cs : List AV} {n : Nat} {r : Room} {h : H} (hne : n ≠ 0) (hl : cs.length = n) (ho : cs.all AV.one = true) (hn : n ≤ 1000000000) :
    aAppend P t t (.sl [] 0 .full) (.sl cs n r) h = some (.sl cs n (.tok h.toks.length 1), { h with toks := h.toks ++ [n] }) := by
  obtain ⟨e, i, z, he, hi, hz, h1, h2, h3⟩ := appT_of hT
  have hb : n * i.bytes ≤ 2 ^ 47 := Nat.le_trans (Nat.mul_le_mul hn h2) (by decide)
  have hm : n ≤ maxLen := Nat.le_trans hn (by decide)
  have ho' : ∀ x ∈ cs, x.one = true := List.all_eq_true.1 ho
  simp [aAppend, he, hi, hz, h1, h3, slCells, hl, hb, hm, hne]
  exact ho'
end

/-- the body of a function -/
abbrev bd (f : Func) : Code := f.body.getD .skip
structure Fok (P : Program) (f : FuncId) (fn : Func) : Prop where
  mixed : P.follows .mixedOrders = true
  at_ : P.funcs[f]? = some fn
  body : fn.body = some (bd fn)
  simple : allSimple (bd fn) = true
  call : callable P f = true

/-- less said of a room -/
def Room.wk : Room → Room
  | .nil => .nil
  | .e => .e
  | _ => .no
def AV.wk : AV → AV
  | .sl cs n r => .sl cs n r.wk
  | a => a
theorem Room.wk_nil {r : Room} : r.wk = .nil ↔ r = .nil := by cases r <;> simp [Room.wk]
@[simp] theorem rok_wk {α : Type} (l : List α) (r : Room) : rok l r.wk ↔ rok l r := by simp [rok, Room.wk_nil]
theorem rok_idx {α : Type} {l : List α} {r : Room} (h : rok l r) {i : Nat} (hi : i < l.length) : r ≠ .nil := h (by rintro rfl; simp at hi)
theorem rm_wk_bnd (r : Room) : r.wk.bnd 0 = true := by cases r <;> rfl
theorem VRel.wk {G : Ghost} (a : AV) (v : Value) (h : VRel G a v) : VRel G a.wk v := by
  cases a with
  | sl cs n r =>
    simp only [VRel, AV.wk] at *
    rcases h with (⟨rfl, h⟩ | ⟨rfl, h⟩) | ⟨c, o, cap, vs, e, h1, h2, h3, h4⟩
    · exact .inl (.inl ⟨rfl, h⟩)
    · exact .inl (.inr ⟨rfl, h⟩)
    · refine .inr ⟨c, o, cap, vs, e, h1, h2, ?_, h4⟩
      cases r
      · exact h3
      · exact trivial
      · exact trivial
      · exact h3
      · exact trivial
  | _ => exact h
theorem VRels.wk {G : Ghost} : ∀ (as : List AV) (vs : List Value), VRels G as vs → VRels G (as.map AV.wk) vs
  | [], vs, h => h
  | a :: as, vs, h => by
    simp only [VRels, List.map_cons] at *
    obtain ⟨v, vs', e, h1, h2⟩ := h
    exact ⟨v, vs', e, VRel.wk a v h1, VRels.wk as vs' h2⟩

mutual
/-- less said of all rooms -/
def AV.wkd : AV → AV
  | .agg cs => .agg (AV.wkds cs)
  | .tup cs => .tup (AV.wkds cs)
  | .sl cs n r => .sl (AV.wkds cs) n r.wk
  | a => a
def AV.wkds : List AV → List AV
  | [] => []
  | a :: as => AV.wkd a :: AV.wkds as
end
@[simp] theorem wkds_ints (l : List Int) : AV.wkds (ints l) = ints l := by
  induction l with
  | nil => rfl
  | cons x l ih => simp only [ints_cons, AV.wkds, AV.wkd, ih]
theorem RoomOk.wk {G G' : Ghost} {r : Room} {c o n cap : Nat} (h : RoomOk G r c o n cap) : RoomOk G' r.wk c o n cap := by
  cases r
  · exact h
  · exact trivial
  · exact trivial
  · exact h
  · exact trivial
structure Ghost.Less (G G' : Ghost) : Prop where
  φ : ∀ b c, G.φ b = some c → G'.φ b = some c
  fr : ∀ c o v, G.fr c o = some v → G'.fr c o = some v
  mp : ∀ m c, G.mp m = some c → G'.mp m = some c
  fn : ∀ t n, G'.tk t n = none
mutual
/-- no functions, no pointers into tokens: what may be said with less -/
def AV.plain : AV → Bool
  | .agg cs | .tup cs => AV.plains cs
  | .sl cs _ _ => AV.plains cs
  | .bool _ | .int _ _ | .str _ | .nilP | .nilM | .nilF | .nilI | .top => true
  | _ => false
def AV.plains : List AV → Bool
  | [] => true
  | a :: as => AV.plain a && AV.plains as
end
mutual
theorem VRel.less {G G' : Ghost} (h : G.Less G') : ∀ (a : AV) (v : Value), a.plain = true → VRel G a v → VRel G' a.wkd v
  | .bool _, _, _, hv | .int _ _, _, _, hv | .str _, _, _, hv | .nilP, _, _, hv | .nilM, _, _, hv | .nilF, _, _, hv | .nilI, _, _, hv => by simpa only [VRel, AV.wkd] using hv
  | .top, _, _, _ => by simp only [VRel, AV.wkd]
  | .agg cs, v, hb, hv => by
    simp only [VRel, AV.wkd, AV.plain] at *
    obtain ⟨vs, e, hs⟩ := hv; exact ⟨vs, e, VRels.less h cs _ hb hs⟩
  | .tup cs, v, hb, hv => by
    simp only [VRel, AV.wkd, AV.plain] at *
    obtain ⟨vs, e, hs⟩ := hv; exact ⟨vs, e, VRels.less h cs _ hb hs⟩
  | .sl cs n r, v, hb, hv => by
    simp only [VRel, AV.wkd, AV.plain] at *
    rcases hv with (⟨rfl, rfl, hv⟩ | ⟨rfl, rfl, hv⟩) | ⟨c, o, cap, vs, e, h1, h2, h3, hs, hf⟩
    · exact .inl (.inl ⟨rfl, rfl, hv⟩)
    · exact .inl (.inr ⟨rfl, rfl, hv⟩)
    · exact .inr ⟨c, o, cap, vs, e, h1, h2, h3.wk, VRels.less h cs _ hb hs, fun i u hu => h.fr _ _ _ (hf i u hu)⟩
theorem VRels.less {G G' : Ghost} (h : G.Less G') : ∀ (as : List AV) (vs : List Value), AV.plains as = true → VRels G as vs → VRels G' (AV.wkds as) vs
  | [], _, _, hv => by simpa only [VRels, AV.wkds] using hv
  | a :: as, vs, hb, hv => by
    simp only [VRels, AV.wkds, AV.plains, Bool.and_eq_true] at *
    obtain ⟨v, vs', e, h1, h2⟩ := hv; exact ⟨v, vs', e, VRel.less h a v hb.1 h1, VRels.less h as vs' hb.2 h2⟩
end
theorem plains_ints (l : List Int) : AV.plains (ints l) = true := by
  induction l with
  | nil => rfl
  | cons x l ih => simp only [ints_cons, AV.plains, AV.plain, ih, Bool.and_self]

theorem sl_ints {P : Program} {t : TypeId} (hu : (elemT P t).bind (sizeT P) = some 1) {l : List Int} {n : Nat} {k : Int} {h : H} (h0 : 0 ≤ k) (hk : k ≤ n) :
    aSlice P t (.sl (ints l) n .no) none (some (.int .i64 k)) none h = some (.sl (ints (l.take k.toNat)) k.toNat .no) := by
  cases he : elemT P t with
  | none => rw [he] at hu; cases hu
  | some e =>
    rw [he] at hu
    have hs : sizeT P e = some 1 := hu
    simp [aSlice, intOf?, aBounds, he, hs, h0, hk, ints, List.map_take]
@[simp] theorem rowsA_frz (l : List Row) (a b : Nat) (h : H) (k : Nat) : (rowsA l).map (frz a b h (k + 2)) = rowsA l := by
  simp only [rowsA, List.map_map]
  apply List.map_congr_left
  rintro ⟨x, c⟩ _
  cases c <;> simp [rowA, frz, rr]
theorem leave_ints (l : List Int) (n : Nat) : leave ⟨0, 0, 0⟩ (.sl (ints l) n (.tok 0 1)) ⟨[], [n], []⟩ = (.sl (ints l) n (.tok 0 1), ⟨[], [n], []⟩) := by
  simp [leave, AV.bnd, frz, Room.bnd, retok]
theorem wkds_rows (l : List Row) : AV.wkds (rowsA l) = rowsA l := by
  induction l with
  | nil => rfl
  | cons x l ih =>
    obtain ⟨x, c⟩ := x
    simp only [rowsA, List.map_cons, AV.wkds] at *
    rw [ih]
    cases c <;> simp [rowA, AV.wkd, rr, Room.wk]
theorem plains_rows (l : List Row) : AV.plains (rowsA l) = true := by
  induction l with
  | nil => rfl
  | cons x l ih =>
    obtain ⟨x, c⟩ := x
    simp only [rowsA, List.map_cons, AV.plains] at *
    simp [ih, rowA, AV.plain, plains_ints]
@[simp] theorem rr_wk (b : RK) : (rr b).wk = rr b := by cases b <;> rfl

/-- what comes back is only read: no room is kept for more -/
theorem CallOk.drop {P : Program} {f : FuncId} {args : List AV} {v : AV} {ts : List Nat} (hc : CallOk P f args .nil v ⟨[], ts, []⟩) (hv : v.plain = true) : CallOk P f args .nil v.wkd .nil := by
  intro G w vs s hgl hr
  refine (hc G w vs s hgl hr).mono ?_
  rintro e w' ⟨G', u, rfl, st, s', hu⟩
  have noφ : ∀ b c, G'.φ b ≠ some c := fun b c h => absurd (s'.dom.φ _ _ h) (Nat.not_lt_zero _)
  have nomp : ∀ b c, G'.mp b ≠ some c := fun b c h => absurd (s'.dom.mp _ _ h) (Nat.not_lt_zero _)
  have notk : ∀ t n x, G.tk t n ≠ some x := fun b c x h => absurd (s.dom.tk _ _ _ h) (Nat.not_lt_zero _)
  refine ⟨⟨G'.φ, G'.fr, fun _ _ => none, G'.mp, G'.bases⟩, u, rfl, ?_, ?_, VRel.less (G := G') (G' := ⟨G'.φ, G'.fr, fun _ _ => none, G'.mp, G'.bases⟩) ⟨fun _ _ h => h, fun _ _ _ h => h, fun _ _ h => h, fun _ _ => rfl⟩ v u hv hu⟩
  · exact ⟨⟨st.le.φ, st.le.fr, fun t n x h => absurd h (notk t n x), st.le.mp⟩, st.os, st.tape, st.output, st.size, st.keep,
      fun c ho => by
        rcases ho with ⟨b, sb, h, _⟩ | ⟨t, n, cap, z, h, _⟩ | ⟨m, h⟩
        · exact absurd h (noφ b _)
        · simp [H.nil] at h
        · exact absurd h (nomp m c),
      st.bases, ⟨st.pend.1, Nat.le_refl _⟩, st.frnew⟩
  · exact {
      dom := by
        constructor
        · exact fun b c h => absurd h (noφ b c)
        · intro t n x h; cases h
        · exact fun b c h => absurd h (nomp b c)
      blk := fun b c h => absurd h (noφ b c)
      tok := fun t n h => by simp [H.nil] at h
      map := fun b c h => absurd h (nomp b c)
      fr := s'.fr
      injφ := s'.injφ
      φfr := s'.φfr
      φtk := fun b c t n cap z h => absurd h (noφ b c)
      tkle := fun t n x h => by cases h
      injtk := fun t t' n n' c cap z cap' z' h => by simp [H.nil] at h
      injmp := s'.injmp
      bases := fun β hβ => by
        have hb : β ∈ G.bases := by rw [← st.bases]; exact hβ
        obtain ⟨h1, h2, h3, _⟩ := s.bases β hb
        exact ⟨h1, h2, h3, fun b c cs h => absurd h (noφ b c)⟩ }

section
variable {P : Program}
theorem CallOk.wk {f : FuncId} {args : List AV} {h : H} {v : AV} {h' : H} (hc : CallOk P f (args.map AV.wk) h v h') : CallOk P f args h v h' := by
  intro G w vs s hgl hr
  exact hc G w vs s hgl (VRels.wk _ _ hr)

theorem Fok.run {f : FuncId} {fn : Func} (k : Fok P f fn) {p : Pures} {S : Summ} (hp : PureOk P p) (hS : SummOk P S) {n : Nat} {args : List AV} {h : H} {v : AV} {h' : H}
    (he : ebody P p S n fn (bd fn) args h = some (v, h')) : CallOk P f args h v h' :=
  ebody_ok k.mixed hp hS k.at_ k.body k.simple he

/-- a contract of what is read in the empty heap, and leaves it as it is -/
def pctr {f : FuncId} {fn : Func} (k : Fok P f fn) {X : Type} (args : X → List AV) (pre : X → Prop) (v : X → AV)
    (det : ∀ x y, args x = args y → pre x → pre y → v x = v y)
    (ha : ∀ x, AV.bnds 0 0 0 ((args x).map AV.wk) = true) (hv : ∀ x, (v x).bnd 0 0 0 = true)
    {p : Pures} {S : Summ} (hp : PureOk P p) (hS : SummOk P S) (n : X → Nat)
    (run : ∀ x, pre x → ebody P p S (n x) fn (bd fn) ((args x).map AV.wk) .nil = some (v x, .nil)) : PCtr P where
  f := f
  X := X
  args := args
  pre := pre
  v := v
  det := det
  ok x hx := ⟨k.call, fun h => (pure_call (k.run hp hS (run x hx)) (ha x) (hv x) h).wk⟩

/-- the same, of what makes slices that are only read later -/
def lctr {f : FuncId} {fn : Func} (k : Fok P f fn) {X : Type} (args : X → List AV) (pre : X → Prop) (v : X → AV)
    (det : ∀ x y, args x = args y → pre x → pre y → v x = v y)
    (ha : ∀ x, AV.bnds 0 0 0 ((args x).map AV.wk) = true) (hv : ∀ x, (v x).bnd 0 0 0 = true)
    {p : Pures} {S : Summ} (hp : PureOk P p) (hS : SummOk P S) (n : X → Nat)
    (run : ∀ x, pre x → ∃ v0 ts, ebody P p S (n x) fn (bd fn) ((args x).map AV.wk) .nil = some (v0, ⟨[], ts, []⟩) ∧ v0.plain = true ∧ v0.wkd = v x) : PCtr P where
  f := f
  X := X
  args := args
  pre := pre
  v := v
  det := det
  ok x hx := ⟨k.call, fun h => by
    obtain ⟨v0, ts, he, hp0, hw⟩ := run x hx
    have := (k.run hp hS he).drop hp0
    rw [hw] at this
    exact (pure_call this (ha x) (hv x) h).wk⟩
end

theorem acall_b {S : Summ} {f : AV} {args : List AV} {h h' : H} {e b : Bool} (hc : aCall S f args h = some (.bool e, h')) (he : e = b) : aCall S f args h = some (.bool b, h') := by rw [hc, he]
theorem bleaf_t {p : Prop} [Decidable p] {h : H} (hp : p) : (AV.bool true, h) = (AV.bool (decide p), h) := by rw [decide_eq_true hp]
theorem bleaf_f {p : Prop} [Decidable p] {h : H} (hp : ¬ p) : (AV.bool false, h) = (AV.bool (decide p), h) := by rw [decide_eq_false hp]
theorem ileaf {k : IntKind} {a b : Int} {h : H} (e : a = b) : (AV.int k a, h) = (AV.int k b, h) := by rw [e]
end Go.VM
end
section
/- What comes in: values of a fitting shape, opened by their cells' types. -/
namespace Go.VM
set_option linter.unusedSectionVars false
variable [Inhabited Globs]
open Go.ChangeShapes Go.WideShapes Go.RowKit
section
variable {P : Program} {w : World} {r : Reach} {base : Nat}

theorem has_rng {n : Int} (h : IntKind.i64.has n) : rng n := by
  simp only [IntKind.has, IntKind.min, IntKind.max, IntKind.signed, IntKind.bits, if_true] at h
  simp only [rng]
  omega
theorem cell_int {u : TypeId} {v : Value} (hu : P.underlying u = some (.int .i64)) (h : Cell.okWide P w r base u v) : ∃ n, v = .int .i64 n ∧ rng n := by
  unfold Cell.okWide at h
  rw [hu] at h
  simp only [Cell.ok, hu] at h
  cases v <;> simp only at h
  rename_i k n
  obtain ⟨rfl, hn⟩ := h
  exact ⟨n, rfl, has_rng hn⟩
theorem val_int {t : TypeId} {v : Value} (hu : P.underlying t = some (.int .i64)) (h : Value.okWide P w r base t v) : ∃ n, v = .int .i64 n ∧ rng n := by
  unfold Value.okWide at h
  rw [hu] at h
  exact cell_int hu h
theorem vrel_int {G : Ghost} {k : IntKind} {n : Int} : VRel G (.int k n) (.int k n) := by simp only [VRel]
theorem vrels_nil {G : Ghost} : VRels G [] [] := by simp only [VRels]
theorem vrels_cons {G : Ghost} {a : AV} {as : List AV} {v : Value} {vs : List Value} (h : VRel G a v) (hs : VRels G as vs) : VRels G (a :: as) (v :: vs) := by
  simp only [VRels]; exact ⟨_, _, rfl, h, hs⟩
end
end Go.VM
end
section
/- What comes in: slices of integers and of rows, by the cells that they lie in. -/
namespace Go.VM
set_option linter.unusedSectionVars false
variable [Inhabited Globs]
open Go.ChangeShapes Go.WideShapes Go.RowKit
section
variable {H : Type} {enc : TypeId × Value → H} {P : Program} {w : World} {held : Bool}

/-- all that lies in the world's cells -/
def seen (w : World) : Nat → Nat → Option Value := fun c o => w.cell? ⟨c, o, none⟩
theorem seen_ok : ∀ c o v, seen w c o = some v → w.cell? ⟨c, o, none⟩ = some v := fun _ _ _ h => h
theorem cell_spot {a : Addr} {v : Value} (h : w.cell? a = some v) : a.spot = none := by
  unfold World.cell? at h
  split at h
  · split at h
    · cases h
    · rename_i hs; simpa using hs
  · cases h
theorem vrels_ints {G : Ghost} (zs : List Int) : VRels G (ints zs) (zs.map fun n => .int .i64 n) := by
  induction zs with
  | nil => simp [VRels]
  | cons x zs ih => simp only [ints_cons, List.map_cons, VRels]; exact ⟨_, _, rfl, by simp [VRel], ih⟩

/-- a slice of integers as a value of a cell -/
theorem open_list {t e : TypeId} {fuel : Nat} {v : Value} {x : DataW H × List MemPlace} (ht : P.underlying t = some (.slice e)) (he : P.underlying e = some (.int .i64)) (hc : P.cellsOf e = 1)
    (h : DataW.trod enc P w 0 (fun _ => true) held fuel t [v] = some x) :
    ∃ (l : List Int) (k : RK), VRel (.ofCells (seen w)) (rowA (l, k)) v ∧ l.length ≤ maxLen ∧ (k.mt = true → l = []) := by
  rcases open_ints ht he hc h with ⟨hv, _⟩ | ⟨a, len, cap, zs, hv, _, hl, hm, hz, _, hcell, _⟩
  · simp only [List.cons.injEq, and_true] at hv; subst hv
    exact ⟨[], .n, by simp [rowA, VRel, rr], by simp, fun _ => rfl⟩
  · simp only [List.cons.injEq, and_true] at hv; subst hv
    simp only [if_true] at hz
    by_cases hc0 : cap = 0
    · obtain rfl : len = 0 := by omega
      subst hc0
      exact ⟨[], .e, by simp only [rowA, VRel, rr]; exact .inl (.inr ⟨by simp, by simp, by simp, a, rfl⟩), by simp, fun _ => rfl⟩
    · have hs : a.spot = none := by
        have := cell_spot (hcell 0 (by omega))
        simpa [Addr.add] using this
      have hlen : (zs.take len).length = len := by rw [List.length_take]; omega
      refine ⟨zs.take len, .l, ?_, by omega, fun h => by cases h⟩
      simp only [rowA, VRel, rr, hlen]
      refine .inr ⟨a.block, a.off, cap, _, ?_, hl, hm, trivial, vrels_ints _, ?_⟩
      · obtain ⟨b, o, s⟩ := a
        simp only at hs; subst hs; rfl
      · intro i u hu
        rw [List.getElem?_map, Option.map_eq_some_iff] at hu
        obtain ⟨n, hn, rfl⟩ := hu
        have hi : i < len := by
          have := (List.getElem?_eq_some_iff.1 hn).1
          omega
        have := hcell i (by omega)
        rw [List.getElem?_take, if_pos hi] at hn
        have hg : zs.getD i 0 = n := by rw [List.getD_eq_getElem?_getD, hn]; rfl
        rw [hg] at this
        obtain ⟨b, o, s⟩ := a
        simp only at hs; subst hs
        rw [addr_add] at this
        exact this
theorem val_slice {r : Reach} {base : Nat} {t e : TypeId} {v : Value} (hu : P.underlying t = some (.slice e)) (h : Value.okWide P w r base t v) :
    v.cells.toList = [v] ∧ ∀ (a : Addr) (n c : Nat), v = .slice (some a) n c → a.spot = none := by
  unfold Value.okWide at h
  rw [hu] at h
  simp only at h
  unfold Cell.okWide at h
  rw [hu] at h
  cases v with
  | slice a n c =>
    refine ⟨rfl, ?_⟩
    rintro a' n' c' e
    cases e
    simp only [Cell.ok, hu] at h
    exact h.2.2.2.1
  | _ => simp only [Cell.ok, hu] at h
end
end Go.VM
end
section
/- Regions that draw their order, some of whose calls change the heap: the theorem. -/
namespace Go.VM
set_option linter.unusedSectionVars false
variable [Inhabited Globs]
section
variable {P : Program} {G : Ghost} {w : World}

/-- a call that may change the heap: of M, or of a function that is not named -/
def callIn (M : FuncId → Bool) : Op → Bool
  | .call { callee := .value (.func i), .. } => M i
  | .call { callee := .value _, .. } => true
  | _ => false
def quietM (M : FuncId → Bool) (o : Op) : Bool := quietKind o && !callIn M o
def effM (M : FuncId → Bool) (o : Op) : Bool := !quietM M o && !allocKind o
/-- it reads, and does no more -/
def readsQ (M : FuncId → Bool) (o : Op) : Bool := readsH o && !effM M o
/-- but for M, S only reads -/
def PureBut (S : Summ) (M : FuncId → Bool) (_ : Pures) : Prop := ∀ i, M i = false → ∀ args, ∃ f : H → Option AV, (∀ h, S i args h = (f h).map fun v => (v, h)) ∧ ∀ h zs v, f h = some v → f { h with blk := h.blk ++ zs } = some v
theorem quietM_not_eff {M : FuncId → Bool} {o : Op} (h : quietM M o = true) : effM M o = false := by simp [effM, h]
theorem quiet_formM {M : FuncId → Bool} {S : Summ} {p : Pures} {β : Base} {o : Oper} {A : List AV} (hp : PureBut S M p) (hq : quietM M o.op = true) : ∃ f : H → Option AV, (∀ h, aop P S β o A h = (f h).map fun v => (v, h)) ∧ (readsH o.op = false → ∀ h h2, f h = f h2) ∧
    (∀ h zs v, f h = some v → f { h with blk := h.blk ++ zs } = some v) := by
  simp only [quietM, Bool.and_eq_true, Bool.not_eq_true'] at hq
  by_cases hcv : ∃ i args argTypes, o.op = .call { callee := .value (.func i), args := args, argTypes := argTypes }
  · obtain ⟨i, args, argTypes, hop⟩ := hcv
    have hc := hq.2
    simp only [hop, callIn] at hc
    obtain ⟨f, h1, h2⟩ := hp i hc (args.toList.map (aev A))
    refine ⟨f, fun h => ?_, fun e => by simp [hop, readsH] at e, h2⟩
    simp only [aop, hop, aCall, aev, List.nil_append, List.append_nil]
    exact h1 h
  · have e : ∀ h, aop P S β o A h = aop P (pureS (fun _ _ => none)) β o A h := fun h => by
      have hc := hq.2
      cases hop : o.op <;> simp only [aop, hop]
      rename_i c
      obtain ⟨callee, args, argTypes⟩ := c
      cases callee with
      | value f =>
        cases f <;> simp only [hop, callIn, reduceCtorEq, Bool.true_eq_false] at hc
        exact absurd ⟨_, _, _, hop⟩ hcv
      | invoke r m => rfl
      | builtin b => rfl
    obtain ⟨f, h1, h2, h3⟩ := quiet_form (P := P) (p := fun _ _ => none) (β := β) (A := A) hq.1
    exact ⟨f, fun h => by rw [e]; exact h1 h, h2, h3⟩

theorem first_effM (ek : Op → Bool) (ops : Array Oper) : ∀ n, n ≤ ops.size → ∃ f, f ≤ n ∧ (∀ j o, j < f → ops[j]? = some o → ek o.op = false) ∧ (f < n → ∃ o, ops[f]? = some o ∧ ek o.op = true)
  | 0, _ => ⟨0, Nat.le_refl _, fun j o hj => absurd hj (Nat.not_lt_zero _), fun h => absurd h (Nat.lt_irrefl _)⟩
  | n + 1, hn => by
    obtain ⟨f, h1, h2, h3⟩ := first_effM ek ops n (by omega)
    by_cases hf : f < n
    · exact ⟨f, by omega, h2, fun _ => h3 hf⟩
    · have hfn : f = n := by omega
      subst hfn
      have ho : ops[f]? = some ops[f] := by simp [show f < ops.size by omega]
      by_cases he : ek ops[f].op = true
      · exact ⟨f, by omega, h2, fun _ => ⟨_, ho, he⟩⟩
      · refine ⟨f + 1, Nat.le_refl _, fun j o hj hjo => ?_, fun h => absurd h (Nat.lt_irrefl _)⟩
        by_cases hjf : j < f
        · exact h2 j o hjf hjo
        · have : j = f := by omega
          subst this; rw [ho] at hjo; cases hjo; simpa using he

/-- a region whose every order comes to the order of the text: slots, effects behind all that reads -/
def simpleRegionM (M : FuncId → Bool) (ops : Array Oper) : Bool :=
  let b := Region.before ops
  let l := ops.toList.zipIdx
  l.all fun (y, j) =>
    (y.after.toList.all fun e => !Region.binds .any e || decide (e.on < j)) && (quietM M y.op || allocKind y.op || effM M y.op) &&
    l.all fun (x, i) =>
      (!decide (i < j) || !hazard ops x y || isAnc b i j) &&
      (!effM M y.op || !(readsQ M x.op || allocKind x.op) || (isAnc b i j && decide (i < j))) &&
      (!decide (i < j) || !(effM M x.op && effM M y.op) || isAnc b i j)

structure SimpleM (M : FuncId → Bool) (ops : Array Oper) : Prop where
  edge : ∀ (j : Nat) (y : Oper), ops[j]? = some y → ∀ e ∈ y.after, Region.binds .any e = true → e.on < j
  kind : ∀ (j : Nat) (y : Oper), ops[j]? = some y → quietM M y.op = true ∨ allocKind y.op = true ∨ effM M y.op = true
  slot : ∀ (i j : Nat) (x y : Oper), ops[i]? = some x → ops[j]? = some y → i < j → hazard ops x y = true → isAnc (Region.before ops) i j = true
  read : ∀ (i j : Nat) (x y : Oper), ops[i]? = some x → ops[j]? = some y → effM M y.op = true → (readsQ M x.op = true ∨ allocKind x.op = true) → isAnc (Region.before ops) i j = true ∧ i < j
  eff : ∀ (i j : Nat) (x y : Oper), ops[i]? = some x → ops[j]? = some y → i < j → effM M x.op = true → effM M y.op = true → isAnc (Region.before ops) i j = true

theorem simpleM_of {M : FuncId → Bool} {ops : Array Oper} (h : simpleRegionM M ops = true) : SimpleM M ops := by
  unfold simpleRegionM at h
  have mem : ∀ {j : Nat} {y : Oper}, ops[j]? = some y → (y, j) ∈ ops.toList.zipIdx := fun {j y} hy => by
    rw [List.mem_zipIdx_iff_getElem?]; simpa using hy
  have one : ∀ {j : Nat} {y : Oper}, ops[j]? = some y → _ := fun {j y} hy => List.all_eq_true.1 h (y, j) (mem hy)
  refine ⟨fun j y hy e he hb => ?_, fun j y hy => ?_, fun i j x y hx hy hij hz => ?_, fun i j x y hx hy he hr => ?_, fun i j x y hx hy hij h1 h2 => ?_⟩
  · have := one hy
    simp only [Bool.and_eq_true] at this
    have q := this.1.1
    have := List.all_eq_true.1 q e (by simpa using he)
    simpa [hb] using this
  · have := one hy
    simp only [Bool.and_eq_true, Bool.or_eq_true] at this
    rcases this.1.2 with (q | q) | q
    · exact .inl q
    · exact .inr (.inl q)
    · exact .inr (.inr q)
  · have := one hy
    simp only [Bool.and_eq_true] at this
    have q := List.all_eq_true.1 this.2 (x, i) (mem hx)
    simp only [Bool.and_eq_true] at q
    simpa [hij, hz] using q.1.1
  · have := one hy
    simp only [Bool.and_eq_true] at this
    have q := List.all_eq_true.1 this.2 (x, i) (mem hx)
    simp only [Bool.and_eq_true] at q
    have q2 := q.1.2
    rcases hr with hr | hr
    · simpa [he, hr] using q2
    · simpa [he, hr] using q2
  · have := one hy
    simp only [Bool.and_eq_true] at this
    have q := List.all_eq_true.1 this.2 (x, i) (mem hx)
    simp only [Bool.and_eq_true] at q
    simpa [hij, h1, h2] using q.2
/-- the heap behind the effects of D -/
def HDM (ek : Op → Bool) (hA : H) (ops : Array Oper) (hs : Nat → H) (D : Nat → Bool) : Nat → H
  | 0 => hA
  | k + 1 => if D k && (ops[k]?).any (fun o => ek o.op) then hs (k + 1) else HDM ek hA ops hs D k

theorem HDM_same {ek : Op → Bool} {hA : H} {ops : Array Oper} {hs : Nat → H} {D E : Nat → Bool} : ∀ k, (∀ j o, j < k → ops[j]? = some o → ek o.op = true → D j = E j) → HDM ek hA ops hs D k = HDM ek hA ops hs E k
  | 0, _ => rfl
  | k + 1, h => by
    have ih := HDM_same (hA := hA) (hs := hs) k (fun j o hj => h j o (by omega))
    simp only [HDM]
    cases ho : ops[k]? with
    | none => simpa using ih
    | some o =>
      simp only [Option.any_some]
      by_cases he : ek o.op = true
      · rw [h k o (by omega) ho he, ih]
      · have he' : ek o.op = false := by simpa using he
        simp only [he', Bool.and_false, Bool.false_eq_true, if_false]; exact ih

theorem HDM_none {ek : Op → Bool} {hA : H} {ops : Array Oper} {hs : Nat → H} {D : Nat → Bool} (k : Nat) (h : ∀ j o, j < k → ops[j]? = some o → ek o.op = true → D j = false) : HDM ek hA ops hs D k = hA := by
  induction k with
  | zero => rfl
  | succ k ih =>
    simp only [HDM]
    rw [if_neg, ih (fun j o hj => h j o (by omega))]
    intro hc
    simp only [Bool.and_eq_true] at hc
    cases ho : ops[k]? with
    | none => simp [ho] at hc
    | some o =>
      simp only [ho, Option.any_some] at hc
      rw [h k o (by omega) ho hc.2] at hc
      exact absurd hc.1 (by simp)

/-- in the text's order, behind the first effect -/
theorem HDM_text {ek : Op → Bool} {hA : H} {ops : Array Oper} {hs : Nat → H} {f : Nat} (hf : hA = hs f) (hfe : ∀ j o, j < f → ops[j]? = some o → ek o.op = false) (hstay : ∀ j o, f ≤ j → ops[j]? = some o → ek o.op = false → hs (j + 1) = hs j) (hsz : ∀ j, ops.size ≤ j → True) {i : Nat} :
    ∀ k, f ≤ k → k ≤ ops.size → k ≤ i → HDM ek hA ops hs (fun j => decide (j < i)) k = hs k := by
  intro k
  induction k with
  | zero => intro h1 _ _; have : f = 0 := by omega
            subst this; exact hf
  | succ k ih =>
    intro h1 h2 h3
    by_cases hk : f ≤ k
    · simp only [HDM]
      have ho : ops[k]? = some ops[k] := by simp [show k < ops.size by omega]
      simp only [ho, Option.any_some, show k < i by omega, decide_true, Bool.true_and]
      by_cases he : ek ops[k].op = true
      · simp [he]
      · have he' : ek ops[k].op = false := by simpa using he
        simp only [he', Bool.false_eq_true, if_false]
        rw [ih hk (by omega) (by omega), hstay k _ hk ho he']
    · have hfk : f = k + 1 := by omega
      subst hfk
      rw [HDM_none]
      · exact hf
      · intro j o hj ho he
        rw [hfe j o hj ho] at he; cases he
set_option maxHeartbeats 2000000 in
theorem drawM_any {M : FuncId → Bool} {S : Summ} {p : Pures} (hm : P.follows .mixedOrders = true) {β : Base} (hS : SummB P β.nb S) (hp : PureBut S M p) {ops : Array Oper} (hsim : simpleRegionM M ops = true) {A : List AV} {h : H} {A' : List AV} {h' : H} (hr : arun P (S) β ops ops.toList A h = some (A', h'))
    {a : Act} (s : SRel G h w) (hβ : ∀ γ ∈ G.bases, γ.1 ≤ β.nb) (r : ARel G A a) {Q : Exit → Act → World → Prop} (hQ : ∀ G' a' w', Step G h w G' h' w' → SRel G' h' w' → ARel G' A' a' → Q .normal a' w') : wpAny P .any ops Q ops.size (Array.replicate ops.size false) a { w with drawn := w.drawn + 1 } := by
  have sim := simpleM_of hsim
  obtain ⟨As, hs, vs, t1, t2, t3, t4, t5⟩ := arun_trace _ _ _ _ _ hr
  have tr : Trace P (S) β ops A h A' h' As hs vs := ⟨t1, t2, by simpa using t3, by simpa using t4, fun i o ho => t5 i o (by simpa using ho)⟩
  obtain ⟨f, f1, f2, f3⟩ := first_effM (effM M) ops ops.size (Nat.le_refl _)
  have size_of : ∀ {i : Nat} {o : Oper}, ops[i]? = some o → i < ops.size := fun ho => (Array.getElem?_eq_some_iff.1 ho).1
  -- what each kind does in the text's order
  have hquiet : ∀ j o, ops[j]? = some o → quietM M o.op = true → hs (j + 1) = hs j := fun j o ho hk => by
    rcases (tr.step j o ho).2 with ⟨_, h2⟩ | ⟨_, _, h2⟩
    · obtain ⟨g, hg, _⟩ := quiet_formM (P := P) hp (β := β) (A := As j) hk
      rw [hg, Option.map_eq_some_iff] at h2
      obtain ⟨_, _, h2⟩ := h2
      simp only [Prod.mk.injEq] at h2; exact h2.2.symm
    · exact h2
  have halloc : ∀ j o e, ops[j]? = some o → o.op = .alloc e → awant ops (As j) o = some true → ∃ z, zeroCs P e = some z ∧ vs j = .ptr (hs j).blk.length 0 ∧ hs (j + 1) = { hs j with blk := (hs j).blk ++ [z] } := fun j o e ho hk hw => by
    rcases (tr.step j o ho).2 with ⟨_, h2⟩ | ⟨h2, _⟩
    · simp only [aop, hk, Option.map_eq_some_iff] at h2
      obtain ⟨z, hz, h2⟩ := h2
      simp only [Prod.mk.injEq] at h2
      exact ⟨z, hz, h2.1.symm, h2.2.symm⟩
    · rw [hw] at h2; cases h2
  have before_f : ∀ i o, ops[i]? = some o → (readsQ M o.op = true ∨ allocKind o.op = true) → i < f := fun i o ho hk => by
    by_cases hf : f < ops.size
    · obtain ⟨o', ho', he⟩ := f3 hf
      exact (sim.read i f o o' ho ho' he hk).2
    · have := size_of ho; omega
  have hstay : ∀ j o, f ≤ j → ops[j]? = some o → effM M o.op = false → hs (j + 1) = hs j := fun j o hj ho he => by
    rcases sim.kind j o ho with hk | hk | hk
    · exact hquiet j o ho hk
    · have := before_f j o ho (.inr hk); omega
    · rw [he] at hk; cases hk
  have hstep : ∀ j, j < f → ∃ zs, hs (j + 1) = { hs j with blk := (hs j).blk ++ zs } := fun j hj => by
    have ho : ops[j]? = some ops[j] := by simp [show j < ops.size by omega]
    rcases sim.kind j _ ho with hk | hk | hk
    · exact ⟨[], by rw [hquiet j _ ho hk]; simp⟩
    · cases hop : ops[j].op <;> rw [hop] at hk <;> simp only [allocKind, Bool.false_eq_true] at hk
      rcases (tr.step j _ ho).2 with ⟨h1, _⟩ | ⟨_, _, h1⟩
      · obtain ⟨z, _, _, hz⟩ := halloc j _ _ ho hop h1
        exact ⟨[z], hz⟩
      · exact ⟨[], by rw [h1]; simp⟩
    · rw [f2 j _ hj ho] at hk; cases hk
  have hprefix : ∀ d k, k + d = f → ∃ zs, hs f = { hs k with blk := (hs k).blk ++ zs } := by
    intro d
    induction d with
    | zero => intro k hk; have : k = f := by omega
              subst this; exact ⟨[], by simp⟩
    | succ d ih =>
      intro k hk
      obtain ⟨zs, hz⟩ := ih (k + 1) (by omega)
      obtain ⟨ys, hy⟩ := hstep k (by omega)
      exact ⟨ys ++ zs, by rw [hz, hy]; simp⟩
  have hpre : ∀ k, k ≤ f → ∃ zs, hs f = { hs k with blk := (hs k).blk ++ zs } := fun k hk => hprefix (f - k) k (by omega)
  obtain ⟨zs0, hzs0⟩ := hpre 0 (Nat.zero_le _)
  rw [tr.h0] at hzs0
  have hlenf : ∀ k, k ≤ f → (hs k).blk.length ≤ (hs f).blk.length := fun k hk => by
    obtain ⟨zs, hz⟩ := hpre k hk
    rw [hz]; simp
  have hlen0 : ∀ d k, k + d ≤ f → (hs k).blk.length ≤ (hs (k + d)).blk.length := by
    intro d
    induction d with
    | zero => intro k _; exact Nat.le_refl _
    | succ d ih =>
      intro k hk
      obtain ⟨ys, hy⟩ := hstep (k + d) (by omega)
      have := ih k (by omega)
      rw [show k + (d + 1) = k + d + 1 by omega, hy]; simp; omega
  have hlens : ∀ j k, j ≤ k → k ≤ f → (hs j).blk.length ≤ (hs k).blk.length := fun j k hj hk => by
    have := hlen0 (k - j) j (by omega)
    rwa [show j + (k - j) = k by omega] at this
  -- the invariant
  let D : Array Bool → Nat → Bool := fun listed i => listed.getD i false
  have main : ∀ (fuel : Nat) (listed : Array Bool) (G1 : Ghost) (w1 : World) (a1 : Act), listed.size = ops.size → Closed ops (D listed) → SRel G1 (HDM (effM M) (hs f) ops hs (D listed) ops.size) w1 → Step G h w G1 (HDM (effM M) (hs f) ops hs (D listed) ops.size) w1 →
      ARel G1 (AD A ops vs (D listed) ops.size) a1 →
      (∀ j o, ops[j]? = some o → allocKind o.op = true → D listed j = false → awant ops (As j) o = some true → G1.φ (hs j).blk.length = none) → unlisted ops.size listed ≤ fuel → wpAny P .any ops Q fuel listed a1 w1 := by
    -- when all is done
    have done : ∀ (listed : Array Bool) (G1 : Ghost) (w1 : World) (a1 : Act), (∀ i, i < ops.size → D listed i = true) → SRel G1 (HDM (effM M) (hs f) ops hs (D listed) ops.size) w1 → Step G h w G1 (HDM (effM M) (hs f) ops hs (D listed) ops.size) w1 →
        ARel G1 (AD A ops vs (D listed) ops.size) a1 → Q .normal a1 w1 := fun listed G1 w1 a1 hall s1 st1 r1 => by
      have e1 : HDM (effM M) (hs f) ops hs (D listed) ops.size = h' := by
        rw [HDM_same (E := fun j => decide (j < ops.size)) ops.size (fun j o hj _ _ => by simp [hall j hj, hj]), HDM_text rfl f2 hstay (fun _ _ => trivial) ops.size f1 (Nat.le_refl _) (Nat.le_refl _), tr.hn]
      have e2 : AD A ops vs (D listed) ops.size = A' := by
        rw [← tr.an, show As ops.size = As (min ops.size ops.size) by simp, ← AD_text tr (Nat.le_refl _) ops.size (Nat.le_refl _)]
        apply List.ext_getElem?
        intro t
        exact AD_same ops.size (fun j hj _ => by simp [hall j hj, hj])
      rw [e1] at s1 st1
      rw [e2] at r1
      exact hQ G1 a1 w1 st1 s1 r1
    have ready_all : ∀ (listed : Array Bool), listed.size = ops.size → Region.ready .any ops listed = [] → ∀ i, i < ops.size → D listed i = true := fun listed hsz hnil i => by
      induction i using Nat.strongRecOn with
      | _ i ih =>
        intro hi
        cases hd : D listed i
        · have : i ∈ Region.ready .any ops listed := by
            rw [mem_ready]
            refine ⟨?_, ops[i], by simp [hi], fun e he hb => ?_⟩
            · have hi' : i < listed.size := by omega
              simp only [D, Array.getD_eq_getD_getElem?, Array.getElem?_eq_getElem hi', Option.getD_some] at hd ⊢
              exact hd
            · have := sim.edge i ops[i] (by simp [hi]) e he hb
              exact ih e.on this (by omega)
          rw [hnil] at this; cases this
        · rfl
    intro fuel
    induction fuel with
    | zero =>
      intro listed G1 w1 a1 hsz hcl s1 st1 r1 hpn hfu
      have hall : ∀ i, i < ops.size → D listed i = true := fun i hi => by
        have h0 : ((List.range ops.size).filter fun i => !listed.getD i false) = [] := List.eq_nil_of_length_eq_zero (by unfold unlisted at hfu; omega)
        have := List.filter_eq_nil_iff.1 h0 i (by simpa using hi)
        simpa [D] using this
      refine ⟨?_, done listed G1 w1 a1 hall s1 st1 r1⟩
      apply List.eq_nil_iff_forall_not_mem.2
      intro j hj
      rw [mem_ready] at hj
      obtain ⟨h0, o, ho, _⟩ := hj
      have hlt : j < listed.size := by have := size_of ho; omega
      have := hall j (size_of ho)
      simp only [D, Array.getD_eq_getD_getElem?, Array.getElem?_eq_getElem hlt, Option.getD_some] at h0 this
      rw [h0] at this; cases this
    | succ fuel ih =>
      intro listed G1 w1 a1 hsz hcl s1 st1 r1 hpn hfu
      refine ⟨fun hnil => done listed G1 w1 a1 (ready_all listed hsz hnil) s1 st1 r1, fun i hi => ?_⟩
      rw [mem_ready] at hi
      obtain ⟨h0, o, ho, hpre1⟩ := hi
      have hin := size_of ho
      have hlt : i < listed.size := by omega
      have hDi : D listed i = false := by
        simp only [Array.getD_eq_getD_getElem?, Array.getElem?_eq_getElem hlt, Option.getD_some] at h0
        simp only [D, Array.getD_eq_getD_getElem?, Array.getElem?_eq_getElem hlt, Option.getD_some]; exact h0
      have ancD : ∀ k, isAnc (Region.before ops) k i = true → D listed k = true := fun k hk => anc_closed hcl i i (Nat.le_refl _) k o ho hpre1 hk
      have notD : ∀ k ok, ops[k]? = some ok → isAnc (Region.before ops) i k = true → D listed k = false := fun k ok hok hk => by
        cases hd : D listed k
        · rfl
        · have := anc_in hcl hok hd hk
          rw [hDi] at this; cases this
      -- slots
      have hslot : ∀ t, t ∈ names ops o → ∀ j, j < ops.size → (ops[j]?).bind (·.dst) = some t → j ≠ i → D listed j = decide (j < i) := fun t ht j hj hdst hji => by
        have hoj : ops[j]? = some ops[j] := by simp [hj]
        rw [hoj] at hdst
        simp only [Option.bind_some] at hdst
        rcases Nat.lt_or_gt_of_ne hji with hlt' | hgt'
        · rw [ancD j (sim.slot j i _ o hoj ho hlt' (by simp [hazard, hdst, ht]))]; simp [hlt']
        · rw [notD j _ hoj (sim.slot i j o _ ho hoj hgt' (by simp [hazard, hdst, ht]))]; simp; omega
      have hread : ∀ t, t ∈ o.looksAt ops → (AD A ops vs (D listed) ops.size)[t]? = (As i)[t]? := fun t ht => by
        rw [AD_same (E := fun j => decide (j < i)) ops.size, AD_text tr (by omega) ops.size (Nat.le_refl _), show min ops.size i = i by omega]
        intro j hj hdst
        by_cases hji : j = i
        · subst hji; rw [hDi]; simp
        · exact hslot t (by simp [names, ht]) j hj hdst hji
      have hev : ∀ x ∈ o.op.operands, aev (AD A ops vs (D listed) ops.size) x = aev (As i) x := fun x hx => aev_of_slots (fun t ht => by
        subst ht
        refine hread t ?_
        simp only [Oper.looksAt, List.mem_append, List.mem_filterMap]
        exact .inl ⟨.tmp t, by simpa using hx, rfl⟩)
      have hwant : awant ops (AD A ops vs (D listed) ops.size) o = awant ops (As i) o := by
        unfold awant
        split
        · rfl
        · rename_i g want hg
          cases hd : (ops[g]?).bind (·.dst) with
          | none => rfl
          | some d =>
            simp only
            rw [hread d (by simp [Oper.looksAt, hg, hd])]
      -- the next state
      let listed' := listed.setIfInBounds i true
      have hD' : ∀ j, D listed' j = (decide (j = i) || D listed j) := fun j => by
        simp only [D, listed', Array.getD_eq_getD_getElem?, Array.getElem?_setIfInBounds]
        by_cases hji : i = j
        · subst hji; simp [hlt]
        · simp [hji, Ne.symm hji]
      have hsz' : listed'.size = ops.size := by simpa [listed'] using hsz
      have hcl' : Closed ops (D listed') := fun j oj hoj hj e he hb => by
        rw [hD'] at hj ⊢
        simp only [Bool.or_eq_true, decide_eq_true_eq] at hj ⊢
        rcases hj with rfl | hj
        · rw [ho] at hoj; cases hoj; exact .inr (hpre1 e he hb)
        · exact .inr (hcl j oj hoj hj e he hb)
      have hAs_len : (As i).length = A.length := by
        have := AD_text tr (i := i) (by omega) ops.size (Nat.le_refl _)
        rw [show min ops.size i = i by omega] at this
        rw [← this, AD_len]
      have hAD' : AD A ops vs (D listed') ops.size = putA (AD A ops vs (D listed) ops.size) o.dst (vs i) := by
        apply List.ext_getElem?
        intro t
        rw [putA_get, AD_len]
        by_cases hd : o.dst = some t
        · rw [AD_same (E := fun j => decide (j < i + 1)) ops.size, AD_text tr (i := i + 1) (by omega) ops.size (Nat.le_refl _), show min ops.size (i + 1) = i + 1 by omega, (tr.step i o ho).1, putA_get, hAs_len]
          · by_cases htl : t < A.length
            · simp [hd, htl]
            · simp only [htl, and_false, if_false]
              rw [List.getElem?_eq_none (by omega), List.getElem?_eq_none (by rw [AD_len]; omega)]
          · intro j hj hdst
            rw [hD']
            by_cases hji : j = i
            · subst hji; simp
            · rw [hslot t (by simp [names, hd]) j hj hdst hji]
              simp only [hji, decide_false, Bool.false_or]
              congr 1; simp only [eq_iff_iff]; omega
        · simp only [hd, false_and, if_false]
          refine AD_same ops.size (fun j hj hdst => ?_)
          rw [hD']
          have : j ≠ i := fun e => by subst e; rw [ho] at hdst; exact hd hdst
          simp [this]
      have hun : unlisted ops.size listed' ≤ fuel := by
        have : unlisted ops.size listed' < unlisted ops.size listed := by
          refine filter_lt (x := i) (by simpa using hin) ?_ ?_ ?_
          · have := hDi; simp only [D] at this; simp [this]
          · have := hD' i; simp only [D, decide_true, Bool.true_or] at this; simp [this]
          · intro y _ hy
            have := hD' y; simp only [D] at this
            rw [this] at hy
            simp only [Bool.not_or, Bool.and_eq_true] at hy
            exact hy.2
        omega
      -- heaps
      have hHD_not : effM M o.op = false → HDM (effM M) (hs f) ops hs (D listed') ops.size = HDM (effM M) (hs f) ops hs (D listed) ops.size := fun he => by
        refine HDM_same ops.size (fun j oj hj hoj hje => ?_)
        rw [hD']
        have : j ≠ i := fun e => by subst e; rw [ho] at hoj; cases hoj; rw [he] at hje; cases hje
        simp [this]
      have hHD_tail : ∀ m k, m ≤ k → k ≤ ops.size → HDM (effM M) (hs f) ops hs (fun j => decide (j < m)) k = HDM (effM M) (hs f) ops hs (fun j => decide (j < m)) m := by
        intro m k
        induction k with
        | zero => intro h1 _; have : m = 0 := by omega
                  subst this; rfl
        | succ k ihk =>
          intro h1 h2
          by_cases hmk : m = k + 1
          · subst hmk; rfl
          · simp only [HDM]
            rw [if_neg (by simp; omega), ihk (by omega) (by omega)]
      have hHD_eff : effM M o.op = true → HDM (effM M) (hs f) ops hs (D listed) ops.size = hs i ∧ HDM (effM M) (hs f) ops hs (D listed') ops.size = hs (i + 1) := fun he => by
        have hfi : f ≤ i := by
          rcases Nat.lt_or_ge i f with q | q
          · rw [f2 i o q ho] at he; cases he
          · exact q
        have hDk : ∀ j oj, j < ops.size → ops[j]? = some oj → effM M oj.op = true → j ≠ i → D listed j = decide (j < i) := fun j oj hj hoj hje hji => by
          rcases Nat.lt_or_gt_of_ne hji with q | q
          · rw [ancD j (sim.eff j i oj o hoj ho q hje he)]; simp [q]
          · rw [notD j oj hoj (sim.eff i j o oj ho hoj q he hje)]; simp; omega
        constructor
        · rw [HDM_same (E := fun j => decide (j < i)) ops.size, hHD_tail i ops.size (by omega) (Nat.le_refl _), HDM_text rfl f2 hstay (fun _ _ => trivial) i hfi (by omega) (Nat.le_refl _)]
          intro j oj hj hoj hje
          by_cases hji : j = i
          · subst hji; rw [hDi]; simp
          · exact hDk j oj hj hoj hje hji
        · rw [HDM_same (E := fun j => decide (j < i + 1)) ops.size, hHD_tail (i + 1) ops.size (by omega) (Nat.le_refl _), HDM_text rfl f2 hstay (fun _ _ => trivial) (i + 1) (by omega) (by omega) (Nat.le_refl _)]
          intro j oj hj hoj hje
          rw [hD']
          by_cases hji : j = i
          · subst hji; simp
          · rw [hDk j oj hj hoj hje hji]
            simp only [hji, decide_false, Bool.false_or]
            congr 1; simp only [eq_iff_iff]; omega
      have hHD_first : (readsQ M o.op = true ∨ allocKind o.op = true) → HDM (effM M) (hs f) ops hs (D listed) ops.size = hs f := fun hk => by
        refine HDM_none ops.size (fun j oj hj hoj hje => ?_)
        exact notD j oj hoj (sim.read i j o oj ho hoj hje hk).1
      have hbases1 : ∀ γ ∈ G1.bases, γ.1 ≤ β.nb := by rw [st1.bases]; exact hβ
      have hpend : ∀ (G2 : Ghost) (w2 : World) (h2 : H), Step G1 (HDM (effM M) (hs f) ops hs (D listed) ops.size) w1 G2 h2 w2 → (∀ j oj, ops[j]? = some oj → allocKind oj.op = true → D listed' j = false → awant ops (As j) oj = some true → G2.φ (hs j).blk.length = none) := by
        intro G2 w2 h2 st2 j oj hoj hjk hj hjw
        rw [hD'] at hj
        simp only [Bool.or_eq_false_iff, decide_eq_false_iff_not] at hj
        have hn := hpn j oj hoj hjk hj.2 hjw
        cases hq : G2.φ (hs j).blk.length with
        | none => rfl
        | some c =>
          -- it lies below what the heap holds now, so it was known before
          have hjf := before_f j oj hoj (.inr hjk)
          have hnoeff : HDM (effM M) (hs f) ops hs (D listed) ops.size = hs f := HDM_none ops.size (fun k ok hk hok hke => by
            cases hd : D listed k
            · rfl
            · have := anc_in hcl hok hd (sim.read j k oj ok hoj hok hke (.inr hjk)).1
              rw [hj.2] at this; cases this)
          have hlt2 : (hs j).blk.length < (hs f).blk.length := by
            cases hop : oj.op <;> rw [hop] at hjk <;> simp only [allocKind, Bool.false_eq_true] at hjk
            obtain ⟨z, _, _, hz⟩ := halloc j oj _ hoj hop hjw
            have := hlens (j + 1) f (by omega) (Nat.le_refl _)
            rw [hz] at this; simp at this; omega
          have := st2.pend.1 _ c hq (by rw [hnoeff]; exact hlt2)
          rw [hn] at this; cases this
      show wpOp P ops Q i (wpAny P .any ops Q fuel listed') a1 w1
      unfold wpOp
      simp only [ho]
      rcases (tr.step i o ho).2 with ⟨hw, hop⟩ | ⟨hw, hv, hsame⟩
      · rw [awant_ok r1 (hwant.trans hw), if_pos rfl]
        left
        rcases sim.kind i o ho with hk | hk | hk
        · -- quiet
          have hneff : effM M o.op = false := quietM_not_eff hk
          have haop : aop P (S) β o (AD A ops vs (D listed) ops.size) (HDM (effM M) (hs f) ops hs (D listed) ops.size) = some (vs i, HDM (effM M) (hs f) ops hs (D listed) ops.size) := by
            rw [aop_congr hev]
            obtain ⟨g, hg1, hg2, hg3⟩ := quiet_formM (P := P) hp (β := β) (A := As i) hk
            rw [hg1, Option.map_eq_some_iff] at hop
            obtain ⟨v, hv1, hv2⟩ := hop
            simp only [Prod.mk.injEq] at hv2
            rw [hg1]
            cases hrd : readsH o.op
            · rw [hg2 hrd _ (hs i), hv1, hv2.1]; rfl
            · rw [hHD_first (.inl (by simp [readsQ, hrd, quietM_not_eff hk]))]
              obtain ⟨zs, hz⟩ := hpre i (by have := before_f i o ho (.inl (by simp [readsQ, hrd, quietM_not_eff hk])); omega)
              rw [hz, hg3 _ zs v hv1, hv2.1]; rfl
          refine aop_ok hS s1 hbases1 r1 haop (fun G2 w2 u st2 s2 hrel => ?_)
          refine ih listed' G2 w2 _ hsz' hcl' ?_ ?_ ?_ (hpend G2 w2 _ st2) hun
          · rw [hHD_not hneff]; exact s2
          · rw [hHD_not hneff]; exact st1.trans st2
          · rw [hAD']; exact put_rel (r1.mono st2.le) hrel o.dst
        · -- alloc
          cases hoo : o.op <;> rw [hoo] at hk <;> simp only [allocKind, Bool.false_eq_true] at hk
          rename_i e
          have hneff : effM M o.op = false := by rw [hoo]; rfl
          obtain ⟨z, hz, hvi, hsi⟩ := halloc i o e ho hoo hw
          have hif := before_f i o ho (.inr (by rw [hoo]; rfl))
          have hHf := hHD_first (.inr (by rw [hoo]; rfl))
          obtain ⟨inf, zv, hinf, hzv, hrun, hrel⟩ := run_zero (w := w1) hz
          have hblk : (hs f).blk[(hs i).blk.length]? = some z := by
            obtain ⟨zs, hzs⟩ := hpre (i + 1) (by omega)
            rw [hzs, hsi]; simp
          have hn := hpn i o ho (by rw [hoo]; rfl) hDi hw
          rw [hHf] at s1 st1
          have hbl : ∀ γ ∈ G1.bases, γ.1 ≤ (hs i).blk.length := fun γ hγ => by
            rw [st1.bases] at hγ
            have h1 := (s.bases γ hγ).1
            have h2 := hlens 0 i (Nat.zero_le _) (by omega)
            rw [tr.h0] at h2; omega
          obtain ⟨G2, hle2, s2, hφ2, hφo, hst⟩ := s1.allocPend hblk hn hbl e (hrel G1)
          have st2 := hst G h w st1 (by have := hlens 0 i (Nat.zero_le _) (by omega); rw [tr.h0] at this; exact this)
          have hex : (execOp a1.eval o).run P w1 = .ok (.value (.pointer (some ⟨w1.heap.size, 0, none⟩))) (w1.alloc (.cells zv.cells e)) := by
            simp [execOp, hoo, Instr.alloc, hrun, newVar, newRow]
          unfold Oper.wp
          rw [hex]
          refine ih listed' G2 _ _ hsz' hcl' ?_ ?_ ?_ ?_ hun
          · rw [hHD_not hneff, hHf]; exact s2
          · rw [hHD_not hneff, hHf]; exact st2
          · rw [hAD', hvi]; exact put_rel (r1.mono hle2) (by simp only [VRel]; exact ⟨_, hφ2, rfl⟩) o.dst
          · intro j oj hoj hjk hj hjw
            rw [hD'] at hj
            simp only [Bool.or_eq_false_iff, decide_eq_false_iff_not] at hj
            rw [hφo]
            · exact hpn j oj hoj hjk hj.2 hjw
            · have hjf := before_f j oj hoj (.inr hjk)
              cases hop2 : oj.op <;> rw [hop2] at hjk <;> simp only [allocKind, Bool.false_eq_true] at hjk
              obtain ⟨z2, _, _, hz2⟩ := halloc j oj _ hoj hop2 hjw
              rcases Nat.lt_or_gt_of_ne hj.1 with q | q
              · have := hlens (j + 1) i (by omega) (by omega)
                rw [hz2] at this; simp at this; omega
              · have := hlens (i + 1) j (by omega) (by omega)
                rw [hsi] at this; simp at this; omega
        · -- an effect
          obtain ⟨e1, e2⟩ := hHD_eff hk
          rw [e1] at s1 st1
          refine aop_ok hS s1 hbases1 r1 (by rw [aop_congr hev]; exact hop) (fun G2 w2 u st2 s2 hrel => ?_)
          refine ih listed' G2 w2 _ hsz' hcl' ?_ ?_ ?_ (hpend G2 w2 _ (by rw [e1]; exact st2)) hun
          · rw [e2]; exact s2
          · rw [e2]; exact st1.trans st2
          · rw [hAD']; exact put_rel (r1.mono st2.le) hrel o.dst
      · -- not wanted
        rw [awant_ok r1 (hwant.trans hw)]
        simp only [Bool.false_eq_true, if_false]
        have hsameHD : HDM (effM M) (hs f) ops hs (D listed') ops.size = HDM (effM M) (hs f) ops hs (D listed) ops.size := by
          by_cases he : effM M o.op = true
          · obtain ⟨e1, e2⟩ := hHD_eff he
            rw [e1, e2, hsame]
          · exact hHD_not (by simpa using he)
        refine ih listed' G1 w1 _ hsz' hcl' ?_ ?_ ?_ (hpend G1 w1 _ (.refl _ _ _)) hun
        · rw [hsameHD]; exact s1
        · rw [hsameHD]; exact st1
        · rw [hAD', hv]; exact put_rel r1 (undef_rel G1) o.dst
  have hD0 : ∀ j, D (Array.replicate ops.size false) j = false := fun j => by
    simp only [D, Array.getD_eq_getD_getElem?]
    by_cases hj : j < ops.size
    · simp [hj]
    · simp [hj]
  have hHD0 : HDM (effM M) (hs f) ops hs (D (Array.replicate ops.size false)) ops.size = hs f := HDM_none _ (fun j o _ _ _ => hD0 j)
  have hAD0 : ∀ k, AD A ops vs (D (Array.replicate ops.size false)) k = A := fun k => by
    induction k with
    | zero => rfl
    | succ k ihk => simp only [AD, hD0, Bool.false_eq_true, if_false, ihk]
  have s0 : SRel G (hs f) { w with drawn := w.drawn + 1 } := by rw [hzs0]; exact (s.pendBlocks zs0).drawn _
  have st0 : Step G h w G (hs f) { w with drawn := w.drawn + 1 } := by
    rw [hzs0]
    exact ⟨.refl G, rfl, rfl, rfl, Nat.le_refl _, fun _ _ _ => rfl, fun _ ho => .inl (ho.imp (fun ⟨b, sb, q1, q2⟩ => ⟨b, sb, q1, fun q => q2 (by rw [List.getElem?_append_left (s.dom.φ _ _ q1)]; exact q)⟩) fun q => q), rfl, ⟨fun _ _ h _ => h, by simp⟩, fun _ _ _ h => .inl h⟩
  refine main ops.size _ G _ a (by simp) (fun j o _ hj => by rw [hD0] at hj; cases hj) (by rw [hHD0]; exact s0) (by rw [hHD0]; exact st0) (by rw [hAD0]; exact r) ?_ ?_
  · intro j o hoj hk _ hw
    cases hq : G.φ (hs j).blk.length with
    | none => rfl
    | some c =>
      have h1 := s.dom.φ _ c hq
      have h2 := hlens 0 j (Nat.zero_le _) (by have := before_f j o hoj (.inr hk); omega)
      rw [tr.h0] at h2; omega
  · unfold unlisted
    have := List.length_filter_le (fun i => !(Array.replicate ops.size false).getD i false) (List.range ops.size)
    simpa using this

theorem drawM_ok {M : FuncId → Bool} {S : Summ} {p : Pures} (hm : P.follows .mixedOrders = true) {β : Base} (hS : SummB P β.nb S) (hp : PureBut S M p) {ops : Array Oper} (hsim : simpleRegionM M ops = true) {A : List AV} {h : H} {A' : List AV} {h' : H} (hr : arun P (S) β ops ops.toList A h = some (A', h'))
    {a : Act} (s : SRel G h w) (hβ : ∀ γ ∈ G.bases, γ.1 ≤ β.nb) (r : ARel G A a) {id : Nat} {Q : Exit → Act → World → Prop} (hQ : ∀ G' a' w', Step G h w G' h' w' → SRel G' h' w' → ARel G' A' a' → Q .normal a' w') : (Code.region id ops true).wp P Q a w :=
  wp_region_any hm (drawM_any hm hS hp hsim hr s hβ r hQ)
def DsafeM (P : Program) (S : Summ) (M : FuncId → Bool) : Base → Draws := fun β ops A h => if simpleRegionM M ops then arun P S β ops ops.toList A h else none
theorem dsafeM_ok {M : FuncId → Bool} {S : Summ} {p : Pures} (hm : P.follows .mixedOrders = true) (hS : SummOk P S) (hp : PureBut S M p) : DrawsOk P (DsafeM P S M) := by
  intro β ops A h A' h' he G w a s hβ r id Q hQ
  simp only [DsafeM] at he
  split at he
  · rename_i hs
    exact drawM_ok hm hS.b hp hs he s hβ r hQ
  · cases he

/-- the order of the text, written down -/
def undraw : Code → Code
  | .region id ops _ => .region id ops false
  | .seq a b => .seq (undraw a) (undraw b)
  | .cond x a b => .cond x (undraw a) (undraw b)
  | .block i c => .block i (undraw c)
  | .loop c => .loop (undraw c)
  | .scope c => .scope (undraw c)
  | c => c
def allSimpleM (M : FuncId → Bool) : Code → Bool
  | .region _ ops true => simpleRegionM M ops
  | .seq a b => allSimpleM M a && allSimpleM M b
  | .cond _ a b => allSimpleM M a && allSimpleM M b
  | .block _ c => allSimpleM M c
  | .loop c => allSimpleM M c
  | .scope c => allSimpleM M c
  | _ => true

theorem exec_undraw {M : FuncId → Bool} {S : Summ} {D : Base → Draws} {β : Base} {n : Nat} : ∀ (c : Code), allSimpleM M c = true → ∀ A h, exec P S D β n (undraw c) A h = exec P S (DsafeM P S M) β n c A h := by
  intro c
  induction c with
  | region id ops draw =>
    intro hc A h
    cases draw
    · simp only [undraw, exec]
    · simp only [allSimpleM] at hc
      simp only [undraw, exec, DsafeM, hc, if_true]
  | seq x y ihx ihy =>
    intro hc A h
    simp only [allSimpleM, Bool.and_eq_true] at hc
    simp only [undraw, exec, ihx hc.1]
    cases exec P S (DsafeM P S M) β n x A h with
    | none => rfl
    | some r =>
      obtain ⟨e, A', h'⟩ := r
      cases e <;> simp only [ihy hc.2]
  | cond c x y ihx ihy =>
    intro hc A h
    simp only [allSimpleM, Bool.and_eq_true] at hc
    simp only [undraw, exec, ihx hc.1, ihy hc.2]
  | block id c ih =>
    intro hc A h
    simp only [allSimpleM] at hc
    simp only [undraw, exec, ih hc]
  | loop c ih =>
    intro hc A h
    simp only [allSimpleM] at hc
    simp only [undraw, exec]
    have : exec P S D β n (undraw c) = exec P S (DsafeM P S M) β n c := funext fun A => funext fun h => ih hc A h
    rw [this]
  | scope c ih =>
    intro hc A h
    simp only [allSimpleM] at hc
    simp only [undraw, exec, ih hc]
  | _ => intros; rfl

theorem ebodyM_ok {M : FuncId → Bool} {q p : Pures} {S : Summ} (hm : P.follows .mixedOrders = true) (hS : SummOk P S) (hp : PureBut S M q) {f : FuncId} {fn : Func} (hf : P.funcs[f]? = some fn) {c : Code} (hb : fn.body = some c) (hs : allSimpleM M c = true)
    {n : Nat} {args : List AV} {h : H} {v : AV} {h' : H} (he : ebody P p S n fn (undraw c) args h = some (v, h')) : CallOk P f args h v h' := by
  refine acall_ok hS (dsafeM_ok hm hS hp) (n := n) ?_
  unfold acall
  simp only [hf, hb]
  unfold ebody at he
  rw [exec_undraw c hs] at he
  exact he
end
end Go.VM
end
section
/- Contracts of functions that change the heap, in regions that draw their order. -/
namespace Go.VM
set_option linter.unusedSectionVars false
variable [Inhabited Globs]
section
variable {P : Program}
structure FokM (P : Program) (M : FuncId → Bool) (f : FuncId) (fn : Func) : Prop where
  mixed : P.follows .mixedOrders = true
  at_ : P.funcs[f]? = some fn
  body : fn.body = some (bd fn)
  simple : allSimpleM M (bd fn) = true
  call : callable P f = true

/-- what only reads: the heap is as before, and more blocks change nothing -/
structure Ctr.Reads (c : Ctr P) : Prop where
  same : ∀ x h, c.pre x h → (c.res x h).2 = h
  more : ∀ x h zs, c.pre x h → c.pre x { h with blk := h.blk ++ zs } ∧ (c.res x { h with blk := h.blk ++ zs }).1 = (c.res x h).1
/-- all contracts but those of M only read -/
inductive Ctrs (P : Program) (M : FuncId → Bool) : List (Ctr P) → Prop
  | nil : Ctrs P M []
  | pure (c : PCtr P) {cs : List (Ctr P)} : Ctrs P M cs → Ctrs P M (c.to :: cs)
  | rd (c : Ctr P) {cs : List (Ctr P)} : c.Reads → Ctrs P M cs → Ctrs P M (c :: cs)
  | eff (c : Ctr P) {cs : List (Ctr P)} : M c.f = true → Ctrs P M cs → Ctrs P M (c :: cs)
theorem PCtr.reads (c : PCtr P) : (PCtr.to c).Reads := ⟨fun _ _ _ => rfl, fun _ _ _ h => ⟨h, rfl⟩⟩

noncomputable def pureBut (S : Summ) : Pures := fun f args => (S f args .nil).map (·.1)
theorem rd_cons {M : FuncId → Bool} {c : Ctr P} (hr : c.Reads) {cs : List (Ctr P)} {p p' : Pures} (ih : PureBut (Sof cs) M p) : PureBut (Sof (c :: cs)) M p' := by
  intro i hi args
  by_cases e : i = c.f
  · refine ⟨fun h => (Sof (c :: cs) i args h).map (·.1), fun h => ?_, fun h zs v hv => ?_⟩
    · simp only [Sof, if_pos e]
      by_cases q : ∃ x, c.args x = args ∧ c.pre x h
      · rw [dif_pos q]
        simp only [Option.map_some, Option.some.injEq]
        exact Prod.ext rfl (hr.same _ h q.choose_spec.2)
      · rw [dif_neg q]; rfl
    · simp only [Sof, if_pos e] at hv ⊢
      by_cases q : ∃ x, c.args x = args ∧ c.pre x h
      · rw [dif_pos q] at hv
        simp only [Option.map_some, Option.some.injEq] at hv
        obtain ⟨m1, m2⟩ := hr.more _ h zs q.choose_spec.2
        have q2 : ∃ x, c.args x = args ∧ c.pre x { h with blk := h.blk ++ zs } := ⟨_, q.choose_spec.1, m1⟩
        rw [dif_pos q2]
        simp only [Option.map_some, Option.some.injEq]
        rw [← hv, ← m2]
        rw [c.det q2.choose q.choose _ (by rw [q2.choose_spec.1, q.choose_spec.1]) q2.choose_spec.2 m1]
      · rw [dif_neg q] at hv; simp at hv
  · obtain ⟨f, h1, h2⟩ := ih i hi args
    exact ⟨f, fun h => by simp only [Sof, if_neg e]; exact h1 h, h2⟩
theorem ctrs_pure {M : FuncId → Bool} : ∀ {cs : List (Ctr P)}, Ctrs P M cs → PureBut (Sof cs) M (pureBut (Sof cs))
  | _, .nil => fun i hi args => ⟨fun _ => none, fun h => rfl, fun _ _ _ h => by cases h⟩
  | _, .pure c (cs := cs) hc => rd_cons c.reads (ctrs_pure hc)
  | _, .rd c hr hc => rd_cons hr (ctrs_pure hc)
  | _, .eff c hm hc => fun i hi args => by
    obtain ⟨f, h1, h2⟩ := ctrs_pure hc i hi args
    have e : ¬ i = c.f := fun e => by subst e; rw [hm] at hi; cases hi
    exact ⟨f, fun h => by simp only [Sof, if_neg e]; exact h1 h, h2⟩

/-- the function with its regions in the order of the text -/
abbrev Func.u (f : Func) : Func := { f with body := some (undraw (bd f)) }
theorem FokM.run {M : FuncId → Bool} {f : FuncId} {fn : Func} (k : FokM P M f fn) {p : Pures} {cs : List (Ctr P)} (hc : Ctrs P M cs) {n : Nat} {args : List AV} {h : H} {v : AV} {h' : H}
    (he : ebody P p (Sof cs) n (Func.u fn) (bd (Func.u fn)) args h = some (v, h')) : CallOk P f args h v h' :=
  ebodyM_ok k.mixed (sof_ok cs) (ctrs_pure hc) k.at_ k.body k.simple he
end
end Go.VM
end
section
/- Slices that may still be written, handed to what only reads. -/
namespace Go.VM
set_option linter.unusedSectionVars false
variable [Inhabited Globs]
section
variable {P : Program} {G : Ghost} {h : H} {w w' : World}

mutual
/-- no part of memory is named -/
def AV.flat : AV → Bool
  | .agg cs | .tup cs => AV.flats cs
  | .bool _ | .int _ _ | .str _ | .nilP | .nilM | .nilF | .nilI | .top => true
  | .sl _ _ r => r == .nil
  | _ => false
def AV.flats : List AV → Bool
  | [] => true
  | a :: as => AV.flat a && AV.flats as
end
mutual
theorem VRel.flat {G G' : Ghost} : ∀ (a : AV) (v : Value), a.flat = true → VRel G a v → VRel G' a v
  | .bool _, _, _, hv | .int _ _, _, _, hv | .str _, _, _, hv | .nilP, _, _, hv | .nilM, _, _, hv | .nilF, _, _, hv | .nilI, _, _, hv => by simpa only [VRel] using hv
  | .top, _, _, _ => by simp only [VRel]
  | .agg cs, v, hb, hv => by
    simp only [VRel, AV.flat] at *
    obtain ⟨vs, e, hs⟩ := hv; exact ⟨vs, e, VRels.flat cs _ hb hs⟩
  | .tup cs, v, hb, hv => by
    simp only [VRel, AV.flat] at *
    obtain ⟨vs, e, hs⟩ := hv; exact ⟨vs, e, VRels.flat cs _ hb hs⟩
  | .sl cs n r, v, hb, hv => by
    simp only [VRel, AV.flat, beq_iff_eq] at *
    subst hb
    rcases hv with hv | ⟨c, o, cap, vs, _, _, _, h3, _⟩
    · exact .inl hv
    · exact absurd h3 (by simp [RoomOk])
theorem VRels.flat {G G' : Ghost} : ∀ (as : List AV) (vs : List Value), AV.flats as = true → VRels G as vs → VRels G' as vs
  | [], _, _, hv => by simpa only [VRels] using hv
  | a :: as, vs, hb, hv => by
    simp only [VRels, AV.flats, Bool.and_eq_true] at *
    obtain ⟨v, vs', e, h1, h2⟩ := hv; exact ⟨v, vs', e, VRel.flat a v hb.1 h1, VRels.flat as vs' hb.2 h2⟩
end

mutual
/-- how an argument is seen by what only reads -/
inductive View (h : H) : AV → AV → Prop
  | same (a : AV) : a.bnd 0 0 0 = true → View h a a
  | msl (b o n cap z : Nat) (cs : List AV) : h.blk[b]? = some cs → AV.bnds 0 0 0 cs = true → View h (.msl b o n cap z) (.sl ((cs.drop o).take (n * z)) n .no)
  | ptr (b o : Nat) (cs : List AV) : h.blk[b]? = some cs → AV.bnds 0 0 0 cs = true → View h (.ptr b o) (.cptr (cs.drop o))
  | agg (as bs : List AV) : Views h as bs → View h (.agg as) (.agg bs)
inductive Views (h : H) : List AV → List AV → Prop
  | nil : Views h [] []
  | cons {a b : AV} {as bs : List AV} : View h a b → Views h as bs → Views h (a :: as) (b :: bs)
end

theorem cell_of_heap {c : Nat} {arr : Array Value} {e : TypeId} (hh : w.heap[c]? = some (.cells arr e (0, 0))) {o : Nat} {v : Value} (hv : arr.toList[o]? = some v) : w.cell? ⟨c, o, none⟩ = some v := by
  simp only [World.cell?, hh]
  simpa using hv

theorem below_seen (s : SRel G h w) : G.LeBelow 0 0 0 (.ofCells (seen w)) :=
  ⟨fun b c hb => absurd hb (Nat.not_lt_zero _), fun c o v hv => s.fr c o v hv, fun t n x ht => absurd ht (Nat.not_lt_zero _), fun m c hm => absurd hm (Nat.not_lt_zero _)⟩
mutual
theorem View.rel (s : SRel G h w) : ∀ {a b : AV}, View h a b → ∀ {v : Value}, VRel G a v → VRel (.ofCells (seen w)) b v := by
  intro a b hv v hr
  cases hv with
  | agg as bs hvs =>
    simp only [VRel] at hr ⊢
    obtain ⟨vs, e, h1⟩ := hr
    exact ⟨vs, e, Views.rel s hvs h1⟩
  | same _ hb => exact VRel.below (below_seen s) _ _ hb hr
  | msl b o n cap z cs hcs hb =>
    simp only [VRel] at hr ⊢
    obtain ⟨c, hφ, cap', rfl, h1, h2, _⟩ := hr
    obtain ⟨cs', arr, e, h3, h4, _, h5⟩ := s.blk b c hφ
    rw [hcs] at h3; cases h3
    refine .inr ⟨c.1, o, cap', ((arr.toList.take cs.length).drop o).take (n * z), rfl, h1, h2, trivial, ?_, ?_⟩
    · exact VRels.below (below_seen s) _ _ (bnds_take _ (bnds_drop _ hb)) ((h5.drop o).take _)
    · intro i u hu
      refine cell_of_heap h4 ?_
      rw [List.getElem?_take] at hu
      split at hu
      · rw [List.getElem?_drop, List.getElem?_take] at hu
        split at hu
        · simpa using hu
        · cases hu
      · cases hu
  | ptr b o cs hcs hb =>
    simp only [VRel] at hr ⊢
    obtain ⟨c, hφ, rfl⟩ := hr
    obtain ⟨cs', arr, e, h3, h4, _, h5⟩ := s.blk b c hφ
    rw [hcs] at h3; cases h3
    refine ⟨c.1, o, (arr.toList.take cs.length).drop o, rfl, ?_, ?_⟩
    · exact VRels.below (below_seen s) _ _ (bnds_drop _ hb) (h5.drop o)
    · intro i u hu
      rw [List.getElem?_drop, List.getElem?_take] at hu
      split at hu
      · exact cell_of_heap h4 (by simpa using hu)
      · cases hu
theorem Views.rel (s : SRel G h w) : ∀ {as bs : List AV}, Views h as bs → ∀ {vs : List Value}, VRels G as vs → VRels (.ofCells (seen w)) bs vs
  | _, _, .nil, _, hr => by simpa only [VRels] using hr
  | _, _, .cons hv hvs, _, hr => by
    simp only [VRels] at hr ⊢
    obtain ⟨v, vs', e, h1, h2⟩ := hr
    exact ⟨v, vs', e, hv.rel s h1, hvs.rel s h2⟩
end
/-- two contracts of one function -/
def Ctr.or (c d : Ctr P) (hf : d.f = c.f) (hd : ∀ x y h, c.args x = d.args y → c.pre x h → d.pre y h → c.res x h = d.res y h) : Ctr P where
  f := c.f
  X := c.X ⊕ d.X
  args := Sum.elim c.args d.args
  pre x h := Sum.elim (fun x => c.pre x h) (fun x => d.pre x h) x
  res x h := Sum.elim (fun x => c.res x h) (fun x => d.res x h) x
  det x y h e p q := by
    cases x <;> cases y
    · exact c.det _ _ h e p q
    · exact hd _ _ h e p q
    · exact (hd _ _ h e.symm q p).symm
    · exact d.det _ _ h e p q
  ok x h p := by
    cases x
    · exact c.ok _ h p
    · rw [← hf]; exact d.ok _ h p
theorem told_rem {t : TypeId} {k : IntKind} {a b r : Int} (hb : b ≠ 0) (he : a.tmod b = r) : aBin P .rem t (.int k a) (.int k b) = some (.int k r) := by simp [aBin, aIntOp, hb, he]
theorem told_quo {t : TypeId} {k : IntKind} {a b r : Int} (hb : b ≠ 0) (he : k.wrap (a.tdiv b) = r) : aBin P .quo t (.int k a) (.int k b) = some (.int k r) := by simp [aBin, aIntOp, hb, he]
theorem told_conv {s d : TypeId} {k k' : IntKind} {n r : Int} (h1 : (P.underlying s).isSome = true) (h2 : P.underlying d = some (.int k')) (he : k'.wrap n = r) : aConvert P s d (.int k n) = some (.int k' r) := by
  cases hs : P.underlying s with
  | none => rw [hs] at h1; cases h1
  | some u => simp [aConvert, hs, h2, he]
theorem told_int {a : Option AV} {k : IntKind} {e r : Int} (h : a = some (.int k e)) (he : e = r) : a = some (.int k r) := by rw [h, he]
end
end Go.VM
end
section
/- The rules of code in a frame that may be a round's, and with marks among its deferred calls. -/
namespace Go.VM
set_option linter.unusedSectionVars false
section
variable {P : Program}
/-- all functions, no bound; of which make the frame is -/
abbrev fen (ro : Option Nat) : Fence := { Fence.wide with round := ro }
theorem calls_in {ro : Option Nat} {n : Nat} {f : FuncId} {args : Array Value} {w : World} {R : Ending → World → Prop} (h : Calls P f args w R) : CallsIn (fen ro) n P f args w R :=
  (callsIn_wide (n := n)).2 h
theorem rows_in {ro : Option Nat} {n : Nat} {row : String} {args : Array Value} {w : World} {R : Value → World → Prop} (h : Rows P row args w R) : RowsIn (fen ro) n P row args w R := by
  intro c cs _
  obtain ⟨v, w', hr, hs⟩ := h c cs
  exact ⟨v, w', hr, stepsIn_wide.2 hs⟩
/-- an operation that is right among no deferred calls is so among marks -/
theorem oper_in {o : Oper} {a : Act} {w : World} {K0 K : Act → World → Prop} {Q0 Q : Exit → Act → World → Prop} {ro : Option Nat} {n : Nat} {ds : List Deferred} (ha : a.defers = [])
    (hK0 : ∀ a' w', K0 a' w' → a'.defers = []) (hK : ∀ a' w', K0 a' w' → K { a' with defers := ds } w') (hQ0 : ∀ e a' w', Q0 e a' w' → e = .normal) (h : o.wp P a w K0 Q0) : o.wpIn (fen ro) n P { a with defers := ds } w K Q := by
  have hput : ∀ (d : Option Tmp) (v : Value), ({ a with defers := ds } : Act).put d v = { a.put d v with defers := ds } := fun d v => by cases d <;> rfl
  have hpd : ∀ (b : Act) (d : Option Tmp) (v : Value), (b.put d v).defers = b.defers := fun b d v => by cases d <;> rfl
  refine ⟨fun _ _ => trivial, ?_⟩
  unfold Oper.wp at h
  by_cases hd : ∃ c, o.op = .defer c
  · exfalso
    obtain ⟨c, hc⟩ := hd
    unfold execOp at h
    rw [hc] at h
    simp only [Sem.run_bind] at h
    cases hr : (resolve a.eval c o.type).run P w with
    | ok d w' =>
      rw [hr] at h
      have := hK0 _ _ h
      rw [hpd] at this
      cases this
    | halt x w' =>
      rw [hr] at h
      cases x <;> first | exact h | (have := hQ0 _ _ _ h; cases this)
  · rw [Oper.semAt_eq _ _ _ (fun c hc => hd ⟨c, hc⟩)]
    have he : ({ a with defers := ds } : Act).eval = a.eval := rfl
    rw [he]
    generalize (execOp a.eval o).run P w = r at *
    have hk : ∀ v w', K0 (a.put o.dst v) w' → K (({ a with defers := ds } : Act).put o.dst v) w' := fun v w' h => by rw [hput]; exact hK _ _ h
    have hdep : ¬ (fen ro).depth.isSome = true := by simp [fen, Fence.wide]
    match r, h with
    | .ok (.value v) w', h => exact hk _ _ h
    | .ok .skip w', h => exact hk _ _ h
    | .ok (.defer d) w', h =>
      have := hK0 _ _ h
      rw [hpd] at this
      cases this
    | .ok (.enter f args) w', h =>
      rw [Oper.uponIn_enter]
      refine ⟨fun hh => absurd hh hdep, calls_in (Calls.mono h ?_)⟩
      intro e w'' hr
      cases e with
      | returned v => exact hk _ _ hr
      | panicked ch => exact absurd (hQ0 _ _ _ hr) (by simp)
      | outgrown => obtain ⟨a', w3, hq⟩ := hr; exact absurd (hQ0 _ _ _ hq) (by simp)
    | .ok (.row row args) w', h =>
      rw [Oper.uponIn_row]
      exact ⟨fun hh => absurd hh hdep, rows_in (Rows.mono h fun v w2 hr => hk _ _ hr)⟩
    | .halt (.panic v) w', h => exact absurd (hQ0 _ _ _ h) (by simp)
theorem put_defers (b : Act) (d : Option Tmp) (v : Value) : (b.put d v).defers = b.defers := by cases d <;> rfl
/-- what ends among no deferred calls began so -/
theorem oper_bare {o : Oper} {a : Act} {w : World} {K0 : Act → World → Prop} {Q0 : Exit → Act → World → Prop}
    (hK0 : ∀ a' w', K0 a' w' → a'.defers = []) (hQ0 : ∀ e a' w', Q0 e a' w' → e = .normal) (h : o.wp P a w K0 Q0) : a.defers = [] := by
  unfold Oper.wp at h
  generalize (execOp a.eval o).run P w = r at *
  match r, h with
  | .ok (.value v) w', h => rw [← put_defers a o.dst v]; exact hK0 _ _ h
  | .ok .skip w', h => rw [← put_defers a o.dst undef]; exact hK0 _ _ h
  | .ok (.defer d) w', h =>
    have := hK0 _ _ h
    rw [put_defers] at this
    cases this
  | .ok (.enter f args) w', h =>
    obtain ⟨e, w'', fr, hr, _⟩ := h []
    cases e with
    | returned v => rw [← put_defers a o.dst v]; exact hK0 _ _ hr
    | panicked ch => exact absurd (hQ0 _ _ _ hr) (by simp)
    | outgrown => obtain ⟨a', w3, hq⟩ := hr; exact absurd (hQ0 _ _ _ hq) (by simp)
  | .ok (.row row args) w', h =>
    obtain ⟨v, w2, hr, _⟩ := h default []
    rw [← put_defers a o.dst v]; exact hK0 _ _ hr
  | .halt (.panic v) w', h => exact absurd (hQ0 _ _ _ h) (by simp)
section
variable {ops : Array Oper} {Q0 Q : Exit → Act → World → Prop} {ro : Option Nat} {n : Nat} {ds : List Deferred}
theorem op_bare {i : Nat} {K : Act → World → Prop} (hQ0 : ∀ e a' w', Q0 e a' w' → e = .normal) (hK : ∀ a' w', K a' w' → a'.defers = []) {a : Act} {w : World} (h : wpOp P ops Q0 i K a w) : a.defers = [] := by
  unfold wpOp at h
  split at h
  · exact hK _ _ h
  · rename_i o ho
    split at h
    · rcases h with h | ⟨_, a', w', hq⟩
      · exact oper_bare hK hQ0 h
      · exact absurd (hQ0 _ _ _ hq) (by simp)
    · rw [← put_defers a o.dst undef]; exact hK _ _ h
theorem op_in {i : Nat} {K K' : Act → World → Prop} (hQ0 : ∀ e a' w', Q0 e a' w' → e = .normal) (hK : ∀ a' w', K a' w' → a'.defers = []) (hK' : ∀ a' w', K a' w' → K' { a' with defers := ds } w') {a : Act} {w : World} (h : wpOp P ops Q0 i K a w) :
    wpOpIn (fen ro) n P ops Q i K' { a with defers := ds } w := by
  have ha := op_bare hQ0 hK h
  unfold wpOp at h
  unfold wpOpIn
  cases ho : ops[i]? with
  | none => simp only [ho] at h; exact hK' _ _ h
  | some o =>
    simp only [ho] at h ⊢
    split at h
    · rename_i hw
      rw [if_pos hw]
      rcases h with h | ⟨_, a', w', hq⟩
      · exact oper_in ha hK hK' hQ0 h
      · exact absurd (hQ0 _ _ _ hq) (by simp)
    · rename_i hw
      rw [if_neg hw]
      refine ⟨fun _ _ => trivial, ?_⟩
      have : ({ a with defers := ds } : Act).put o.dst undef = { a.put o.dst undef with defers := ds } := by cases o.dst <;> rfl
      rw [this]; exact hK' _ _ h
theorem ops_bare (hQ0 : ∀ e a' w', Q0 e a' w' → e = .normal) (hQn : ∀ a' w', Q0 .normal a' w' → a'.defers = []) : ∀ (l : List Nat) (a : Act) (w : World), wpOps P ops Q0 l a w → a.defers = []
  | [], a, w, h => hQn a w h
  | i :: rest, a, w, h => by
    rw [wpOps_cons] at h
    exact op_bare hQ0 (ops_bare hQ0 hQn rest) h
theorem ops_in (hQ0 : ∀ e a' w', Q0 e a' w' → e = .normal) (hQn : ∀ a' w', Q0 .normal a' w' → a'.defers = []) (hQ : ∀ a' w', Q0 .normal a' w' → Q .normal { a' with defers := ds } w') : ∀ (l : List Nat) (a : Act) (w : World), wpOps P ops Q0 l a w →
    wpOpsIn (fen ro) n P ops Q l { a with defers := ds } w
  | [], a, w, h => hQ a w h
  | i :: rest, a, w, h => by
    rw [wpOps_cons] at h
    rw [wpOpsIn_cons]
    exact op_in hQ0 (ops_bare hQ0 hQn rest) (ops_in hQ0 hQn hQ rest) h
theorem any_bare (hQ0 : ∀ e a' w', Q0 e a' w' → e = .normal) (hQn : ∀ a' w', Q0 .normal a' w' → a'.defers = []) {md : Region.Mode} : ∀ (fuel : Nat) (listed : Array Bool) (a : Act) (w : World), wpAny P md ops Q0 fuel listed a w → a.defers = []
  | 0, listed, a, w, h => hQn a w h.2
  | fuel + 1, listed, a, w, h => by
    cases hr : Region.ready md ops listed with
    | nil => exact hQn _ _ (h.1 hr)
    | cons i rs => exact op_bare hQ0 (any_bare hQ0 hQn fuel _) (h.2 i (by rw [hr]; simp))
theorem any_in (hQ0 : ∀ e a' w', Q0 e a' w' → e = .normal) (hQn : ∀ a' w', Q0 .normal a' w' → a'.defers = []) (hQ : ∀ a' w', Q0 .normal a' w' → Q .normal { a' with defers := ds } w') {md : Region.Mode} : ∀ (fuel : Nat) (listed : Array Bool) (a : Act) (w : World), wpAny P md ops Q0 fuel listed a w →
    wpAnyIn (fen ro) n P md ops Q fuel listed { a with defers := ds } w
  | 0, listed, a, w, h => ⟨h.1, hQ a w h.2⟩
  | fuel + 1, listed, a, w, h => ⟨fun hr => hQ a w (h.1 hr), fun i hi => op_in hQ0 (any_bare hQ0 hQn fuel _) (any_in hQ0 hQn hQ fuel _) (h.2 i hi)⟩
end
theorem stepR_scope {b : Frame} {a : Act} {k : List Item} {cs : List Frame} {w : World} {c : Code} : step P (lone (b.atR a (.code (.scope c) :: k)) cs w) = .next (lone (b.atR a (.code c :: .inScope c :: k)) cs w) :=
  step_lone_go (by simp [stepG, stepG.exec, Frame.atR])
theorem stepR_inScope {b : Frame} {a : Act} {k : List Item} {cs : List Frame} {w : World} {c : Code} : step P (lone (b.atR a (.inScope c :: k)) cs w) = .next (lone (b.atR a k) cs w) :=
  step_lone_go (by simp [stepG, stepG.exec, Frame.atR])
theorem wpIn_scope {F : Fence} {n : Nat} {c : Code} {Q : Exit → Act → World → Prop} {a : Act} {w : World} (h : c.wpIn F n P (Exit.noGoto Q) a w) : (Code.scope c).wpIn F n P Q a w := by
  intro b k cs hro hb hr
  obtain ⟨e, a₁, w₁, hq, harr⟩ := h b (.inScope c :: k) cs hro hb hr
  have f1 := fenced_calm (P := P) (F := F) (n := n) (fr := b.atR a (.code (.scope c) :: k)) (cs := cs) (w := w) hb hr rfl
  cases e with
  | normal => exact ⟨.normal, a₁, w₁, hq, .head f1 stepR_scope (StepsIn.trans harr (.one (fenced_calm (fr := b.atR a₁ (.inScope c :: k)) hb hr rfl) stepR_inScope))⟩
  | exit id => exact ⟨.exit id, a₁, w₁, hq, fun k' hk => .head f1 stepR_scope (harr.1 k' (by simp [exitTo, hk])), fun hr2 hk => let ⟨k₁, h1, h2⟩ := harr.2 hr2 (by simp [exitTo, hk]); ⟨k₁, h1, .head f1 stepR_scope h2⟩⟩
  | goto l => exact hq.elim
  | ret => exact ⟨_, a₁, w₁, hq, .of_steps (.one f1 stepR_scope) harr⟩
  | panic ch => exact ⟨_, a₁, w₁, hq, .of_steps (.one f1 stepR_scope) harr⟩
  | outgrown => exact ⟨_, a₁, w₁, hq, .of_steps (.one f1 stepR_scope) harr⟩
end
end Go.VM
end
section
/- The reader over what code comes to in the model: ends as a set; between a loop's rounds
   blocks that nothing names any more are let go. -/
namespace Go.VM
set_option linter.unusedSectionVars false
variable [Inhabited Globs]
section
variable {P : Program}

/-- blocks that are known, and that nothing owns -/
def KeepO (obs : List (Nat × Obj)) (G : Ghost) (h : H) (w : World) : Prop := ∀ p ∈ obs, w.heap[p.1]? = some p.2 ∧ ¬ Own G h p.1
theorem KeepO.step {obs : List (Nat × Obj)} {G G' : Ghost} {h h' : H} {w w' : World} (k : KeepO obs G h w) (st : Step G h w G' h' w') : KeepO obs G' h' w' := fun p hp => by
  obtain ⟨h1, h2⟩ := k p hp
  have hlt : p.1 < w.heap.size := (Array.getElem?_eq_some_iff.1 h1).1
  refine ⟨(st.keep p.1 hlt h2).trans h1, fun ho => ?_⟩
  rcases st.own p.1 ho with q | q
  · exact h2 q
  · omega
abbrev mark (D : Nat) : Deferred := { target := .collected D, args := #[] }
/-- marks among the deferred calls, each of an empty block -/
def Marks (B : Nat) (G : Ghost) (h : H) (w : World) (ds : List Deferred) : Prop := ∃ Ds : List Nat, ds = Ds.map mark ∧ Ds.Nodup ∧ (∀ D ∈ Ds, B ≤ D) ∧ KeepO (Ds.map fun D => (D, Obj.deferred (some []))) G h w
theorem Marks.step {B : Nat} {G G' : Ghost} {h h' : H} {w w' : World} {ds : List Deferred} (k : Marks B G h w ds) (st : Step G h w G' h' w') : Marks B G' h' w' ds := by
  obtain ⟨Ds, e, hn, hB, hk⟩ := k
  exact ⟨Ds, e, hn, hB, hk.step st⟩
abbrev Act.bare (a : Act) : Act := { a with defers := [] }
/-- a round's frame: its record is known, it defers nothing -/
def RoOk (ro : Option Nat) (obs : List (Nat × Obj)) (a : Act) : Prop := ∀ l, ro = some l → (∃ r, (l, Obj.loop r) ∈ obs) ∧ a.defers = []
/-- where the function was entered -/
structure Ent (β : Base) (Ge : Ghost) (he : H) (we : World) : Prop where
  srel : SRel Ge he we
  base : β.nm = 987654321 ∨ he.base = β
  gl : GlobOk Ge
  bases : ∀ γ ∈ Ge.bases, γ.1 ≤ β.nb
/-- where a run is -/
structure Stt (ro : Option Nat) (obs : List (Nat × Obj)) (Ge : Ghost) (he : H) (we : World) (G : Ghost) (A : List AV) (h : H) (w : World) (a : Act) : Prop where
  st : Step Ge he we G h w
  s : SRel G h w
  keep : KeepO obs G h w
  marks : Marks we.heap.size G h w a.defers
  ro : RoOk ro obs a
  r : ARel G A (Act.bare a)
/-- from these slots and this heap a piece of code comes to one of some ends; what was there when the function was entered stays -/
def SemC (P : Program) (lv : Prop) (β : Base) (c : Code) (A : List AV) (h : H) (K : AX → List AV → H → Prop) : Prop :=
  ∀ (ro : Option Nat) (Ge : Ghost) (he : H) (we : World), Ent β Ge he we → ∀ (obs : List (Nat × Obj)) (G : Ghost) (w : World) (a : Act), Stt ro obs Ge he we G A h w a →
    ∀ (Q : Exit → Act → World → Prop), (∀ x A' h' G' a' w', K x A' h' → Stt ro obs Ge he we G' A' h' w' a' → (lv → G.Le G') → Q x.toExit a' w') → c.wpIn (fen ro) 0 P Q a w

theorem SemC.mono {lv : Prop} {β : Base} {c : Code} {A : List AV} {h : H} {K K' : AX → List AV → H → Prop} (hc : SemC P lv β c A h K) (hK : ∀ x A' h', K x A' h' → K' x A' h') : SemC P lv β c A h K' :=
  fun ro Ge he we en obs G w a t Q hQ => hc ro Ge he we en obs G w a t Q (fun x A' h' G' a' w' hk => hQ x A' h' G' a' w' (hK _ _ _ hk))

/-- a loop from known slots to one of some ends -/
def LoopS (E : Env) (c : Code) (N : Nat) (is : List Nat) (vs : List AV) (h : H) (outs : List Out) : Prop :=
  ∀ A, A.length = N → sel is A = vs → SemC E.P (E.n = 300) E.β (.loop c) A h (fun x A' h' => A'.length = N ∧ hits outs x A' h')

/-- a range over a function, likewise -/
def RangeS (E : Env) (c : Code) (N : Nat) (is : List Nat) (vs : List AV) (h : H) (outs : List Out) : Prop :=
  ∀ A, A.length = N → sel is A = vs → SemC E.P (E.n = 300) E.β c A h (fun x A' h' => A'.length = N ∧ hits outs x A' h')

/-- the reader: as wW, but loops by what they come to; regions in the order of the text -/
def wS (E : Env) : Code → List AV → H → List Ans → Kn → Prop
  | .skip, A, h, os, K => K .normal A h os
  | .label _, A, h, os, K => K .normal A h os
  | .region _ ops _, A, h, os, K => runW E E.S ops ops.toList A h os (K .normal)
  | .seq x y, A, h, os, K => wS E x A h os fun e A h os => match e with
    | .normal => wS E y A h os K
    | e => K e A h os
  | .cond c x y, A, h, os, K => match aev A c with
    | .bool true => wS E x A h os K
    | .bool false => wS E y A h os K
    | _ => False
  | .block id c, A, h, os, K => wS E c A h os fun e A h os => match e with
    | .exit i => if i = id then K .normal A h os else K (.exit i) A h os
    | e => K e A h os
  | .loop c, A, h, os, K => match os with
    | .loop is outs :: _ => LoopS E c A.length is (sel is A) h outs ∧ outsW A.length K outs
    | os => iterW (wS E c) E.n A h os K
  | .exit id, A, h, os, K => K (.exit id) A h os
  | .scope c, A, h, os, K => wS E c A h os K
  | .ret, A, h, os, K => K .ret A h os
  | .rangeFunc g ps x y, A, h, os, K => match os with
    | .loop is outs :: _ => RangeS E (.rangeFunc g ps x y) A.length is (sel is A) h outs ∧ outsW A.length K outs
    | _ => False
  | _, _, _, _, _ => False

/-- what the reader rests on -/
structure Rests (E : Env) (M : FuncId → Bool) : Prop where
  mixed : E.P.follows .mixedOrders = true
  summ : SummB E.P E.β.nb E.S
  pure : ∃ p, PureBut E.S M p

theorem iterS_ok {lv : Prop} {β : Base} {c : Code} {f : List AV → H → List Ans → Kn → Prop} (hf : ∀ A h os K, f A h os K → SemC P lv β c A h (fun x A' h' => ∃ os', K x A' h' os')) {ro : Option Nat} {Ge : Ghost} {he : H} {we : World} (en : Ent β Ge he we) {obs : List (Nat × Obj)} :
    ∀ (n : Nat) (A : List AV) (h : H) (os : List Ans) (K : Kn), iterW f n A h os K → ∀ (G : Ghost) (w : World) (a : Act), Stt ro obs Ge he we G A h w a →
      ∀ (Q : Exit → Act → World → Prop), (∀ x A' h' G' a' w', (∃ os', K x A' h' os') → Stt ro obs Ge he we G' A' h' w' a' → (lv → G.Le G') → Q x.toExit a' w') → Code.roundsIn (fen ro) 0 P c Q n a w
  | 0, A, h, os, K, hw, _, _, _, _, _, _ => hw.elim
  | n + 1, A, h, os, K, hw, G, w, a, t, Q, hQ => by
    simp only [iterW] at hw
    rw [roundsIn_succ]
    refine hf _ _ _ _ hw ro Ge he we en obs G w a t _ (fun x1 A1 h1 G1 a1 w1 hk t1 l1 => ?_)
    obtain ⟨os1, hk⟩ := hk
    cases x1
    · exact iterS_ok hf en n A1 h1 os1 K hk G1 w1 a1 t1 Q (fun x A' h' G' a' w' hk2 t2 l2 => hQ x A' h' G' a' w' hk2 t2 fun q => (l1 q).trans (l2 q))
    · exact hQ _ A1 h1 G1 a1 w1 ⟨os1, hk⟩ t1 l1
    · exact hQ _ A1 h1 G1 a1 w1 ⟨os1, hk⟩ t1 l1
/-- behind a region -/
theorem Stt.region {ro : Option Nat} {obs : List (Nat × Obj)} {Ge : Ghost} {he : H} {we : World} {G G' : Ghost} {A A' : List AV} {h h' : H} {w w' : World} {a a' : Act} (t : Stt ro obs Ge he we G A h w a)
    (st : Step G h w G' h' w') (s : SRel G' h' w') (r : ARel G' A' a') : Stt ro obs Ge he we G' A' h' w' { a' with defers := a.defers } :=
  ⟨t.st.trans st, s, t.keep.step st, t.marks.step st, t.ro, ⟨r.tmps, rfl, r.gl⟩⟩

theorem wS_ok {E : Env} {M : FuncId → Bool} (hR : Rests E M) : ∀ (c : Code), allSimpleM M c = true → ∀ (A : List AV) (h : H) (os : List Ans) (K : Kn), wS E c A h os K →
    SemC E.P (E.n = 300) E.β c A h (fun x A' h' => ∃ os', K x A' h' os') := by
  intro c
  induction c with
  | skip =>
    intro _ A h os K hw ro Ge he we en obs G w a t Q hQ
    exact wpIn_skip (hQ _ A h G a w ⟨os, hw⟩ t fun _ => .refl _)
  | label l =>
    intro _ A h os K hw ro Ge he we en obs G w a t Q hQ
    exact wpIn_label (hQ _ A h G a w ⟨os, hw⟩ t fun _ => .refl _)
  | exit id =>
    intro _ A h os K hw ro Ge he we en obs G w a t Q hQ
    exact wpIn_exit (hQ (.exit id) A h G a w ⟨os, hw⟩ t fun _ => .refl _)
  | ret =>
    intro _ A h os K hw ro Ge he we en obs G w a t Q hQ
    exact wpIn_ret (hQ .ret A h G a w ⟨os, hw⟩ t fun _ => .refl _)
  | region id ops d =>
    intro hs A h os K hw ro Ge he we en obs G w a t Q hQ
    simp only [wS] at hw
    obtain ⟨A', h', os', hea, hk⟩ := runW_ok hw
    have hβ' : ∀ γ ∈ G.bases, γ.1 ≤ E.β.nb := by rw [t.st.bases]; exact en.bases
    let Q0 : Exit → Act → World → Prop := fun e a' w' => e = .normal ∧ ∃ G', Step G h w G' h' w' ∧ SRel G' h' w' ∧ ARel G' A' a'
    have q1 : ∀ e a' w', Q0 e a' w' → e = .normal := fun e a' w' hq => hq.1
    have q2 : ∀ a' w', Q0 .normal a' w' → a'.defers = [] := fun a' w' hq => by obtain ⟨_, _, _, _, r⟩ := hq; exact r.defers
    have q3 : ∀ a' w', Q0 .normal a' w' → Q .normal { a' with defers := a.defers } w' := fun a' w' hq => by
      obtain ⟨_, G', st, s, r⟩ := hq
      exact hQ .normal A' h' G' _ w' ⟨os', hk⟩ (t.region st s r) fun _ => st.le
    cases d
    · refine wpIn_region ?_
      have := arun_ok hR.summ (Q := Q0) ops.toList 0 A h G w (Act.bare a) A' h' (by simp) t.s hβ' t.r hea (fun G' a' w' st' s' r' => ⟨rfl, G', st', s', r'⟩)
      rw [← List.range_eq_range', Array.length_toList] at this
      exact ops_in (a := Act.bare a) (ds := a.defers) q1 q2 q3 _ w this
    · simp only [allSimpleM] at hs
      obtain ⟨p, hp⟩ := hR.pure
      refine wpIn_region_any hR.mixed ?_
      have := drawM_any hR.mixed hR.summ hp hs hea t.s hβ' t.r (Q := Q0) (fun G' a' w' st' s' r' => ⟨rfl, G', st', s', r'⟩)
      exact any_in (a := Act.bare a) (ds := a.defers) q1 q2 q3 _ _ _ this
  | seq x y ihx ihy =>
    intro hs A h os K hw ro Ge he we en obs G w a t Q hQ
    simp only [allSimpleM, Bool.and_eq_true] at hs
    simp only [wS] at hw
    refine wpIn_seq ?_
    refine ihx hs.1 _ _ _ _ hw ro Ge he we en obs G w a t _ (fun x1 A1 h1 G1 a1 w1 hk t1 l1 => ?_)
    obtain ⟨os1, hk⟩ := hk
    cases x1
    · exact ihy hs.2 _ _ _ _ hk ro Ge he we en obs G1 w1 a1 t1 Q (fun x A' h' G' a' w' hk2 t2 l2 => hQ x A' h' G' a' w' hk2 t2 fun q => (l1 q).trans (l2 q))
    · exact hQ _ A1 h1 G1 a1 w1 ⟨os1, hk⟩ t1 l1
    · exact hQ _ A1 h1 G1 a1 w1 ⟨os1, hk⟩ t1 l1
  | cond o x y ihx ihy =>
    intro hs A h os K hw ro Ge he we en obs G w a t Q hQ
    simp only [allSimpleM, Bool.and_eq_true] at hs
    simp only [wS] at hw
    have hc := aev_rel t.r o
    split at hw
    · rename_i hbb; rw [hbb] at hc; simp only [VRel] at hc
      exact wpIn_cond_true hc (ihx hs.1 _ _ _ _ hw ro Ge he we en obs G w a t Q hQ)
    · rename_i hbb; rw [hbb] at hc; simp only [VRel] at hc
      exact wpIn_cond_false hc (ihy hs.2 _ _ _ _ hw ro Ge he we en obs G w a t Q hQ)
    · exact hw.elim
  | block id c ih =>
    intro hs A h os K hw ro Ge he we en obs G w a t Q hQ
    simp only [allSimpleM] at hs
    simp only [wS] at hw
    refine wpIn_block ?_
    refine ih hs _ _ _ _ hw ro Ge he we en obs G w a t _ (fun x1 A1 h1 G1 a1 w1 hk t1 l1 => ?_)
    obtain ⟨os1, hk⟩ := hk
    cases x1
    · exact hQ .normal A1 h1 G1 a1 w1 ⟨os1, hk⟩ t1 l1
    · rename_i i
      simp only at hk
      split at hk
      · rename_i hi
        simp only [AX.toExit, Exit.inBlock, hi, if_true]
        exact hQ .normal A1 h1 G1 a1 w1 ⟨os1, hk⟩ t1 l1
      · rename_i hi
        simp only [AX.toExit, Exit.inBlock, hi, if_false]
        exact hQ (.exit i) A1 h1 G1 a1 w1 ⟨os1, hk⟩ t1 l1
    · exact hQ .ret A1 h1 G1 a1 w1 ⟨os1, hk⟩ t1 l1
  | loop c ih =>
    intro hs A h os K hw
    simp only [allSimpleM] at hs
    simp only [wS] at hw
    split at hw
    · rename_i is outs os1
      refine (hw.1 A rfl rfl).mono ?_
      rintro x A' h' ⟨hN, hh⟩
      exact outs_hit hN hh hw.2
    · intro ro Ge he we en obs G w a t Q hQ
      exact wpIn_loop_rounds E.n (iterS_ok (ih hs) en E.n A h _ K hw G w a t Q hQ)
  | scope c ih =>
    intro hs A h os K hw ro Ge he we en obs G w a t Q hQ
    simp only [allSimpleM] at hs
    simp only [wS] at hw
    refine wpIn_scope ?_
    refine ih hs _ _ _ _ hw ro Ge he we en obs G w a t _ (fun x1 A1 h1 G1 a1 w1 hk t1 l1 => ?_)
    have hq := hQ x1 A1 h1 G1 a1 w1 hk t1 l1
    cases x1 <;> exact hq
  | rangeFunc g ps x y _ _ =>
    intro hs A h os K hw
    simp only [wS] at hw
    split at hw
    · rename_i is outs os1
      refine (hw.1 A rfl rfl).mono ?_
      rintro x A' h' ⟨hN, hh⟩
      exact outs_hit hN hh hw.2
    · exact hw.elim
  | _ => intro _ A h os K hw; exact hw.elim

/-! ### what nothing names any more -/
def H.cut (h : H) (nb : Nat) : H := ⟨h.blk.take nb, h.toks, h.maps⟩
def H.clean (h : H) (nb : Nat) : Prop := ∀ cs ∈ h.blk.take nb, AV.bnds nb h.toks.length h.maps.length cs = true
def Ghost.cut (G : Ghost) (nb : Nat) : Ghost := { G with φ := fun b => if b < nb then G.φ b else none }
theorem cut_below (G : Ghost) (nb nt nm : Nat) : G.LeBelow nb nt nm (G.cut nb) := ⟨fun b c hb h => by simp only [Ghost.cut, if_pos hb]; exact h, fun _ _ _ h => h, fun _ _ _ _ h => h, fun _ _ _ h => h⟩
theorem cut_φ {G : Ghost} {nb b : Nat} {c : Nat × Nat} (h : (G.cut nb).φ b = some c) : b < nb ∧ G.φ b = some c := by
  simp only [Ghost.cut] at h
  split at h
  · rename_i q; exact ⟨q, h⟩
  · cases h
theorem SRel.cutH {G : Ghost} {h : H} {w : World} (s : SRel G h w) {nb : Nat} (hc : h.clean nb) (hb : ∀ γ ∈ G.bases, γ.1 ≤ nb) : SRel (G.cut nb) (h.cut nb) w where
  dom := ⟨fun b c hq => by
    obtain ⟨h1, h2⟩ := cut_φ hq
    have := s.dom.φ b c h2
    simp only [H.cut, List.length_take]; omega, s.dom.tk, s.dom.mp⟩
  blk b c hq := by
    obtain ⟨h1, h2⟩ := cut_φ hq
    obtain ⟨cs, arr, e, q1, q2, q2', q3⟩ := s.blk b c h2
    have q4 : (h.blk.take nb)[b]? = some cs := by rw [List.getElem?_take, if_pos h1]; exact q1
    exact ⟨cs, arr, e, q4, q2, q2', VRels.below (cut_below G nb _ _) _ _ (hc cs (List.mem_of_getElem? q4)) q3⟩
  tok := s.tok
  map m c hm := by
    obtain ⟨M, es, ck, q1, q2, hMok, M', q3, q4, q5, q6⟩ := s.map m c hm
    refine ⟨M, es, ck, q1, q2, hMok, M', q3, q4, fun i kv e g1 g2 => ?_, q6⟩
    have hin := hMok.2 kv (q3.mem_iff.1 (List.mem_of_getElem? g1))
    obtain ⟨r1, r2⟩ := q5 i kv e g1 g2
    exact ⟨VRel.below (cut_below G 0 0 0 |> fun h => ⟨fun b c hb => absurd hb (Nat.not_lt_zero _), h.fr, fun t n x ht => absurd ht (Nat.not_lt_zero _), fun m c hm => absurd hm (Nat.not_lt_zero _)⟩) _ _ (key_bnd hin.1) r1,
      VRel.below (cut_below G 0 0 0 |> fun h => ⟨fun b c hb => absurd hb (Nat.not_lt_zero _), h.fr, fun t n x ht => absurd ht (Nat.not_lt_zero _), fun m c hm => absurd hm (Nat.not_lt_zero _)⟩) _ _ hin.2 r2⟩
  fr := s.fr
  injφ b b' c c' h1 h2 he := (s.injφ b b' c c' (cut_φ h1).2 (cut_φ h2).2 he).imp id (Or.imp (fun q => by show (h.blk.take nb)[b]? = _; rw [List.getElem?_take, if_pos (cut_φ h1).1]; exact q) (fun q => by show (h.blk.take nb)[b']? = _; rw [List.getElem?_take, if_pos (cut_φ h2).1]; exact q))
  φfr b c o hq hl := s.φfr b c o (cut_φ hq).2 (fun q => hl (by show (h.blk.take nb)[b]? = _; rw [List.getElem?_take, if_pos (cut_φ hq).1]; exact q))
  φtk b c t n cap sz hq := s.φtk b c t n cap sz (cut_φ hq).2
  tkle := s.tkle
  injtk := s.injtk
  injmp := s.injmp
  bases β hβ := by
    obtain ⟨h1, h2, h3, h4⟩ := s.bases β hβ
    refine ⟨by have := hb β hβ; simp only [H.cut, List.length_take]; omega, h2, h3, fun b c cs hq hlt hcs => ?_⟩
    obtain ⟨q1, q2⟩ := cut_φ hq
    simp only [H.cut, List.getElem?_take, if_pos q1] at hcs
    exact h4 b c cs q2 hlt hcs
theorem Step.cutH {G0 G : Ghost} {h0 h : H} {w0 w : World} (s0 : SRel G0 h0 w0) (st : Step G0 h0 w0 G h w) {nb : Nat} (hn : h0.blk.length ≤ nb) : Step G0 h0 w0 (G.cut nb) (h.cut nb) w where
  le := ⟨fun b c hq => by
    have := s0.dom.φ b c hq
    simp only [Ghost.cut, if_pos (show b < nb by omega)]
    exact st.le.φ b c hq, st.le.fr, st.le.tk, st.le.mp⟩
  os := st.os
  tape := st.tape
  output := st.output
  size := st.size
  keep := st.keep
  own c ho := by
    refine st.own c ?_
    rcases ho with ⟨b, sb, hb, hl⟩ | ho
    · exact .inl ⟨b, sb, (cut_φ hb).2, fun q => hl (by show (h.blk.take nb)[b]? = _; rw [List.getElem?_take, if_pos (cut_φ hb).1]; exact q)⟩
    · exact .inr ho
  bases := st.bases
  pend := ⟨fun b c hq hl => st.pend.1 b c (cut_φ hq).2 hl, by have := st.pend.2; simp only [H.cut, List.length_take]; omega⟩
  frnew := st.frnew
/-- slots that are kept, the others unknown -/
def keepA (nb nt nm : Nat) (A : List AV) : List AV := A.map fun a => if a.bnd nb nt nm then a else .top
theorem keepAs {G : Ghost} (nb nt nm : Nat) : ∀ {A : List AV} {us : List Value}, VRels G A us → VRels (G.cut nb) (keepA nb nt nm A) us
  | [], us, h => by simpa only [keepA, List.map_nil, VRels] using h
  | x :: A, us, h => by
    simp only [VRels] at h
    obtain ⟨v, vs, e, h1, h2⟩ := h
    simp only [keepA, List.map_cons, VRels]
    refine ⟨v, vs, e, ?_, keepAs nb nt nm h2⟩
    split
    · rename_i hb; exact VRel.below (cut_below G nb nt nm) _ _ hb h1
    · simp only [VRel]
theorem keepA_rel {G : Ghost} {A : List AV} {a : Act} (r : ARel G A a) (nb nt nm : Nat) : ARel (G.cut nb) (keepA nb nt nm A) a := ⟨keepAs nb nt nm r.tmps, r.defers, r.gl⟩

theorem le_cut {G G' : Ghost} (h : G.Le G') {nb : Nat} (hb : ∀ b c, G.φ b = some c → b < nb) : G.Le (G'.cut nb) :=
  ⟨fun b c q => by simp only [Ghost.cut, if_pos (hb b c q)]; exact h.φ b c q, h.fr, h.tk, h.mp⟩
theorem own_cut {G : Ghost} {h : H} {nb c : Nat} (ho : Own (G.cut nb) (h.cut nb) c) : Own G h c := by
  rcases ho with ⟨b, sb, hb, hl⟩ | ho
  · exact .inl ⟨b, sb, (cut_φ hb).2, fun q => hl (by show (h.blk.take nb)[b]? = _; rw [List.getElem?_take, if_pos (cut_φ hb).1]; exact q)⟩
  · exact .inr ho
theorem Stt.cut {ro : Option Nat} {obs : List (Nat × Obj)} {Ge : Ghost} {he : H} {we : World} {G : Ghost} {A : List AV} {h : H} {w : World} {a : Act} (t : Stt ro obs Ge he we G A h w a) {nb : Nat} (hc : h.clean nb) (hb : ∀ γ ∈ G.bases, γ.1 ≤ nb)
    (s0 : SRel Ge he we) (hn : he.blk.length ≤ nb) : Stt ro obs Ge he we (G.cut nb) (keepA nb h.toks.length h.maps.length A) (h.cut nb) w a :=
  ⟨t.st.cutH s0 hn, t.s.cutH hc hb, fun p hp => ⟨(t.keep p hp).1, fun ho => (t.keep p hp).2 (own_cut ho)⟩,
    by
      obtain ⟨Ds, e, hn, hB, hk⟩ := t.marks
      exact ⟨Ds, e, hn, hB, fun p hp => ⟨(hk p hp).1, fun ho => (hk p hp).2 (own_cut ho)⟩⟩, t.ro, keepA_rel t.r nb _ _⟩

/-- a round's end: with nb, blocks from nb on are let go -/
def KroundS (cut : Option Nat) (I : Nat → List AV → H → Prop) (N m j : Nat) (is : List Nat) (outs : List Out) : Kn := fun x A h _ =>
  match x with
  | .normal => A.length = N ∧ j < m ∧ Keep (match cut with
    | none => I (j + 1) (sel is A) h
    | some nb => AV.bnds nb h.toks.length h.maps.length (sel is A) = true ∧ h.clean nb ∧ I (j + 1) (sel is A) (h.cut nb))
  | x => A.length = N ∧ hits outs x A h

theorem sel_keep {nb nt nm : Nat} {A : List AV} : ∀ {is : List Nat}, AV.bnds nb nt nm (sel is A) = true → sel is (keepA nb nt nm A) = sel is A := by
  intro is
  simp only [sel]
  intro h
  rw [AV.bnds_iff] at h
  apply List.map_congr_left
  intro i hi
  have hb := h (A.getD i .undef) (List.mem_map.2 ⟨i, hi, rfl⟩)
  simp only [keepA, List.getD_eq_getElem?_getD, List.getElem?_map] at hb ⊢
  cases hq : A[i]? with
  | none => rfl
  | some x => simp only [hq, Option.getD_some, Option.map_some] at hb ⊢; rw [if_pos hb]

theorem loop_s {P : Program} {S : Summ} {p : Pures} {β : Base} {n : Nat} {c : Code} {N : Nat} {is : List Nat} {vs : List AV} {h : H} {outs : List Out} {M : FuncId → Bool}
    (hR : Rests ⟨P, S, p, β, n⟩ M) (hc : allSimpleM M c = true) (cut : Option Nat) (hcut : ∀ nb, cut = some nb → β.nb ≤ nb ∧ h.blk.length ≤ nb)
    (I : Nat → List AV → H → Prop) (m : Nat) (h0 : I 0 vs h)
    (hlen : ∀ nb, cut = some nb → ∀ j vs h, I j vs h → h.blk.length ≤ nb)
    (hstep : ∀ j vs h, j ≤ m → I j vs h → ∃ os, ∀ u, Led (wS ⟨P, S, p, β, n⟩ c (fr N u (is.zip vs)) h os (KroundS cut I N m j is outs))) :
    LoopS ⟨P, S, p, β, n⟩ c N is vs h outs := by
  intro A0 hA0 hs0 ro Ge he we en obs
  obtain ⟨h0l, hh0⟩ : ∃ x, x = h.blk.length := ⟨_, rfl⟩
  have go : ∀ (d j : Nat) (A : List AV) (h : H), m - j = d → j ≤ m → A.length = N → I j (sel is A) h → ∀ (G0 G : Ghost) (w : World) (a : Act), Stt ro obs Ge he we G A h w a → (∀ b c, G0.φ b = some c → b < h0l) → (n = 300 → G0.Le G) →
      ∀ (Q : Exit → Act → World → Prop), (∀ x A' h' G' a' w', (A'.length = N ∧ hits outs x A' h') → Stt ro obs Ge he we G' A' h' w' a' → (n = 300 → G0.Le G') → Q x.toExit a' w') → Code.roundsIn (fen ro) 0 P c Q (d + 1) a w := by
    intro d
    induction d with
    | zero =>
      intro j A h hd hj hA hI G0 G w a t hb0 l0 Q hQ
      obtain ⟨os, hw⟩ := hstep j _ _ hj hI
      have := (hw (fun i => A.getD i .undef)).it
      rw [← hA, fr_sel] at this
      rw [roundsIn_succ]
      refine wS_ok hR c hc _ _ _ _ this ro Ge he we en obs G w a t _ (fun x1 A1 h1 G1 a1 w1 hk t1 l1 => ?_)
      obtain ⟨os1, hk⟩ := hk
      cases x1
      · simp only [KroundS] at hk; omega
      · simp only [KroundS] at hk
        exact hQ _ A1 h1 G1 a1 w1 ⟨by rw [hk.1, hA], hk.2⟩ t1 fun q => (l0 q).trans (l1 q)
      · simp only [KroundS] at hk
        exact hQ _ A1 h1 G1 a1 w1 ⟨by rw [hk.1, hA], hk.2⟩ t1 fun q => (l0 q).trans (l1 q)
    | succ d ih =>
      intro j A h hd hj hA hI G0 G w a t hb0 l0 Q hQ
      obtain ⟨os, hw⟩ := hstep j _ _ hj hI
      have := (hw (fun i => A.getD i .undef)).it
      rw [← hA, fr_sel] at this
      rw [roundsIn_succ]
      refine wS_ok hR c hc _ _ _ _ this ro Ge he we en obs G w a t _ (fun x1 A1 h1 G1 a1 w1 hk t1 l1 => ?_)
      obtain ⟨os1, hk⟩ := hk
      cases x1
      · simp only [KroundS] at hk
        obtain ⟨k1, k2, k3⟩ := hk
        cases hcu : cut with
        | none =>
          rw [hcu] at k3
          exact ih (j + 1) A1 h1 (by omega) (by omega) (by rw [k1, hA]) k3 G0 G1 w1 a1 t1 hb0 (fun q => (l0 q).trans (l1 q)) Q hQ
        | some nb =>
          rw [hcu] at k3
          obtain ⟨k4, k5, k6⟩ := k3
          have hnb : he.blk.length ≤ nb := Nat.le_trans t.st.pend.2 (hlen nb hcu j _ h hI)
          have hb1 : ∀ γ ∈ G1.bases, γ.1 ≤ nb := fun γ hγ => by
            rw [t1.st.bases] at hγ
            exact Nat.le_trans (en.bases γ hγ) (hcut nb hcu).1
          have t2 := t1.cut k5 hb1 en.srel hnb
          exact ih (j + 1) _ _ (by omega) (by omega) (by simp [keepA, k1, hA]) (by rw [sel_keep k4]; exact k6) G0 (G1.cut nb) w1 a1 t2 hb0 (fun q => le_cut ((l0 q).trans (l1 q)) (fun b c hb => by have := hb0 b c hb; have := (hcut nb hcu).2; omega)) Q hQ
      · simp only [KroundS] at hk
        exact hQ _ A1 h1 G1 a1 w1 ⟨by rw [hk.1, hA], hk.2⟩ t1 fun q => (l0 q).trans (l1 q)
      · simp only [KroundS] at hk
        exact hQ _ A1 h1 G1 a1 w1 ⟨by rw [hk.1, hA], hk.2⟩ t1 fun q => (l0 q).trans (l1 q)
  intro G w a t Q hQ
  exact wpIn_loop_rounds (m + 1) (go m 0 A0 h (by omega) (Nat.zero_le _) hA0 (by rw [hs0]; exact h0) G G w a t (fun b c hb => by rw [hh0]; exact t.s.dom.φ b c hb) (fun _ => .refl _) Q hQ)

/-- the body of a function, read so -/
def bodyS (E : Env) (fn : Func) (c : Code) (args : List AV) (h : H) (os : List Ans) (r : AV × H) : Prop :=
  wS E c (args ++ List.replicate (fn.ntmps - args.length) .undef) h os (Kfin E fn h r)

/-- a block that nothing owns, and that holds no cell, becomes another one -/
theorem SRel.put {G : Ghost} {h : H} {w : World} (s : SRel G h w) {D : Nat} (o' : Obj) (hn : ¬ Own G h D) (hc : ∀ i, w.cell? ⟨D, i, none⟩ = none) (hx : ∀ arr e f, w.heap[D]? ≠ some (.cells arr e f)) : SRel G h (w.putObj D o') := by
  have hoth : ∀ c, c ≠ D → (w.putObj D o').heap[c]? = w.heap[c]? := fun c hne => World.putObj_heap_other hne
  refine ⟨s.dom, ?_, ?_, ?_, ?_, s.injφ, s.φfr, s.φtk, s.tkle, s.injtk, s.injmp, s.bases⟩
  · intro b c hb
    obtain ⟨cs, arr, e, h1, h2, h3⟩ := s.blk b c hb
    exact ⟨cs, arr, e, h1, by rw [hoth c.1 (fun e => by rw [e] at h2; exact hx _ _ _ h2)]; exact h2, h3⟩
  · intro t n ht
    obtain ⟨c, cap, size, cur, e, h1, h2, h3⟩ := s.tok t n ht
    exact ⟨c, cap, size, cur, e, h1, by rw [hoth c (fun e => hn (e ▸ .inr (.inl ⟨t, n, cap, size, ht, h1⟩)))]; exact h2, h3⟩
  · intro m c hm
    obtain ⟨M, es, ck, h1, h2, h3⟩ := s.map m c hm
    exact ⟨M, es, ck, h1, by rw [hoth c (fun e => hn (e ▸ .inr (.inr ⟨m, hm⟩)))]; exact h2, h3⟩
  · intro c o v hf
    have h1 := s.fr c o v hf
    have hne : c ≠ D := fun e => by subst e; rw [hc o] at h1; cases h1
    rw [World.cell?_of_block (w := w) (a := ⟨c, o, none⟩) (hoth c hne)]; exact h1
theorem Step.put {G0 G : Ghost} {h0 h : H} {w0 w : World} (st : Step G0 h0 w0 G h w) {D : Nat} (o' : Obj) (hD : w0.heap.size ≤ D) : Step G0 h0 w0 G h (w.putObj D o') where
  le := st.le
  os := st.os
  tape := st.tape
  output := st.output
  size := by rw [World.putObj_size]; exact st.size
  keep c hc hn := by rw [World.putObj_heap_other (by omega)]; exact st.keep c hc hn
  own := st.own
  bases := st.bases
  pend := st.pend
  frnew := st.frnew
theorem cell_deferred {w : World} {D : Nat} {x : Option (List Deferred)} (h : w.heap[D]? = some (.deferred x)) (i : Nat) : w.cell? ⟨D, i, none⟩ = none := by
  unfold World.cell?
  rw [h]
/-- the way out of a function with marks -/
theorem leaves_marks {fn : Func} {tmps : Array Value} {R : Ending → World → Prop} {Ge : Ghost} {he : H} {we : World} {G : Ghost} {h : H} : ∀ (Ds : List Nat) (w : World), Ds.Nodup → (∀ D ∈ Ds, we.heap.size ≤ D) → KeepO (Ds.map fun D => (D, Obj.deferred (some []))) G h w → Step Ge he we G h w → SRel G h w →
    (∀ w', Step Ge he we G h w' → SRel G h w' → ∃ v, (results fn tmps).run P w' = .ok v w' ∧ R (.returned v) w') → LeavesInM (fen none) 0 P fn tmps R (Ds.map mark) .returning w
  | [], w, _, _, _, st, s, hR => hR w st s
  | D :: Ds, w, hn, hB, hk, st, s, hR => by
    obtain ⟨k1, k2⟩ := hk (D, .deferred (some [])) (by simp)
    have hnd := List.nodup_cons.1 hn
    refine ⟨by simp, .inl ⟨D, w.putObj D (.deferred none), rfl, run_takeDeferred k1, ?_⟩⟩
    refine leaves_marks Ds _ hnd.2 (fun D' hD' => hB D' (by simp [hD'])) (fun p hp => ?_) (st.put _ (hB D (by simp))) (s.put _ k2 (cell_deferred k1) (fun _ _ _ q => by rw [k1] at q; cases q)) hR
    obtain ⟨D', hD', rfl⟩ := List.mem_map.1 hp
    obtain ⟨q1, q2⟩ := hk (D', .deferred (some [])) (by simp [hD'])
    have hne : D' ≠ D := fun e => hnd.1 (by rw [← e]; exact hD')
    exact ⟨(World.putObj_heap_other hne).trans q1, q2⟩

/-- a function's body comes to one value and one heap -/
structure Body (E : Env) (M : FuncId → Bool) (fn : Func) (args : List AV) (h : H) (r : AV × H) : Prop where
  it : ∃ os, bodyS E fn (bd fn) args h os r
theorem body_s {E : Env} {M : FuncId → Bool} {fn : Func} {args : List AV} {h : H} {r : AV × H} (os : List Ans) (w : Prop) (e : bodyS E fn (bd fn) args h os r = w) (hw : w) : Body E M fn args h r := ⟨os, e ▸ hw⟩

theorem Body.call {E : Env} {M : FuncId → Bool} {f : FuncId} {fn : Func} {args : List AV} {h : H} {r : AV × H} (hb : Body E M fn args h r) (k : FokM E.P M f fn) (hR : Rests E M) (hβ : E.β = h.base) : CallOk E.P f args h r.1 r.2 := by
  intro G w vs s hgl hr
  obtain ⟨os, hw⟩ := hb.it
  have hl := hr.length
  refine callsIn_wide.1 (callsIn_of_wp_marks (F := fen none) (n := 0) k.at_ k.body trivial ?_ rfl)
  have hle : G.Le { G with bases := (h.blk.length, h.toks.length, h.maps.length) :: G.bases } := ⟨fun _ _ h => h, fun _ _ _ h => h, fun _ _ _ h => h, fun _ _ h => h⟩
  have en : Ent E.β { G with bases := (h.blk.length, h.toks.length, h.maps.length) :: G.bases } h w := ⟨s.push, .inr hβ.symm, hgl, by
    intro γ hγ
    rw [hβ]
    rcases List.mem_cons.1 hγ with rfl | hγ
    · exact Nat.le_refl _
    · exact (s.bases γ hγ).1⟩
  refine wS_ok hR (bd fn) k.simple _ _ _ _ hw none _ h w en [] _ w _ ⟨.refl _ _ _, s.push, fun p hp => (by cases hp), ⟨[], rfl, List.nodup_nil, fun D hD => (by cases hD), fun p hp => (by cases hp)⟩, fun l hl => (by cases hl), ?_⟩ _ (fun x A1 h1 G1 a1 w1 hk t1 _ => ?_)
  · refine ⟨?_, rfl, hgl⟩
    simp only [Array.toList_append, Array.toList_replicate, List.size_toArray]
    rw [← hl]
    exact (VRels.mono hle _ _ hr).append (VRels.replicate (undef_rel _) _)
  · obtain ⟨os1, hk⟩ := hk
    have st1 := t1.st
    have s1 := t1.s
    have r1 := t1.r
    have fin : ∀ vs', resvs E.P h1 A1 fn.results.toList = some vs' → leave h.base (oneOrTup vs') h1 = r → bodyPostM (fen none) 0 E.P fn (fun e w' => ∃ G' u, e = .returned u ∧ Step G h w G' r.2 w' ∧ SRel G' r.2 w' ∧ VRel G' r.1 u) .ret a1 w1 := by
      intro vs' hvs' hlv
      obtain ⟨Ds, eD, hn, hB, hk⟩ := t1.marks
      show LeavesInM (fen none) 0 E.P fn a1.tmps _ a1.defers .returning w1
      rw [eD]
      refine leaves_marks Ds w1 hn hB hk st1 s1 (fun w2 st2 s2 => ?_)
      obtain ⟨u, hu1, hu2⟩ := results_ok s2 r1 hvs'
      obtain ⟨G', g1, g2, g3⟩ := leave_ok s s2 st2 hu2 (v' := r.1) (h' := r.2) hlv
      exact ⟨u, hu1, G', u, rfl, g2, g1, g3⟩
    cases x
    · simp only [Kfin] at hk
      split at hk
      · rename_i vs' hv; exact fin vs' hv hk
      · exact hk.elim
    · exact hk.elim
    · simp only [Kfin] at hk
      split at hk
      · rename_i vs' hv; exact fin vs' hv hk
      · exact hk.elim
end
end Go.VM
end
section
/- Contracts by the reader over what code comes to. -/
namespace Go.VM
set_option linter.unusedSectionVars false
variable [Inhabited Globs]
section
variable {P : Program}

theorem rests {M : FuncId → Bool} {cs : List (Ctr P)} (hm : P.follows .mixedOrders = true) (hc : Ctrs P M cs) {p : Pures} {β : Base} {n : Nat} : Rests ⟨P, Sof cs, p, β, n⟩ M := ⟨hm, (sof_ok cs).b, _, ctrs_pure hc⟩

theorem Body.run {M : FuncId → Bool} {f : FuncId} {fn : Func} (k : FokM P M f fn) {cs : List (Ctr P)} (hc : Ctrs P M cs) {p : Pures} {β : Base} {n : Nat} {args : List AV} {h : H} {r : AV × H} (hb : Body ⟨P, Sof cs, p, β, n⟩ M fn args h r) (hβ : β = h.base) : CallOk P f args h r.1 r.2 :=
  hb.call k (rests k.mixed hc) hβ

/-- a contract of what is read in the empty heap, and leaves it as it is -/
def sctr {M : FuncId → Bool} {f : FuncId} {fn : Func} (k : FokM P M f fn) {X : Type} (args : X → List AV) (pre : X → Prop) (v : X → AV)
    (det : ∀ x y, args x = args y → pre x → pre y → v x = v y)
    (ha : ∀ x, AV.bnds 0 0 0 ((args x).map AV.wk) = true) (hv : ∀ x, (v x).bnd 0 0 0 = true)
    (run : ∀ x, pre x → ∃ cs p n, Ctrs P M cs ∧ Body ⟨P, Sof cs, p, H.nil.base, n⟩ M fn ((args x).map AV.wk) .nil (v x, .nil)) : PCtr P where
  f := f
  X := X
  args := args
  pre := pre
  v := v
  det := det
  ok x hx := ⟨k.call, fun h => by
    obtain ⟨cs, p, n, hc, hb⟩ := run x hx
    exact (pure_call (hb.run k hc rfl) (ha x) (hv x) h).wk⟩
/-- the same, of what makes slices that are only read later -/
def slctr {M : FuncId → Bool} {f : FuncId} {fn : Func} (k : FokM P M f fn) {X : Type} (args : X → List AV) (pre : X → Prop) (v : X → AV)
    (det : ∀ x y, args x = args y → pre x → pre y → v x = v y)
    (ha : ∀ x, AV.bnds 0 0 0 ((args x).map AV.wk) = true) (hv : ∀ x, (v x).bnd 0 0 0 = true)
    (run : ∀ x, pre x → ∃ cs p n v0 ts, Ctrs P M cs ∧ Body ⟨P, Sof cs, p, H.nil.base, n⟩ M fn ((args x).map AV.wk) .nil (v0, ⟨[], ts, []⟩) ∧ v0.plain = true ∧ v0.wkd = v x) : PCtr P where
  f := f
  X := X
  args := args
  pre := pre
  v := v
  det := det
  ok x hx := ⟨k.call, fun h => by
    obtain ⟨cs, p, n, v0, ts, hc, hb, hp0, hw⟩ := run x hx
    have := (hb.run k hc rfl).drop hp0
    rw [hw] at this
    exact (pure_call this (ha x) (hv x) h).wk⟩
def none1 : FuncId → Bool := fun _ => false
end
end Go.VM
end
section
/- More that the context tells. -/
namespace Go.VM
set_option linter.unusedSectionVars false
variable [Inhabited Globs]
def strAt (s : ByteArray) (i : Int) : Int := ((s[i.toNat]!).toNat : Nat)
theorem ix_str {P : Program} {t : TypeId} (hu : P.underlying t = some .string) {s : ByteArray} {k : IntKind} {i : Int} (h0 : 0 ≤ i) (h1 : i < s.size) : aIndex P t (.str s) (.int k i) = some (.int .u8 (strAt s i)) := by
  simp [aIndex, hu, h0, h1, strAt]
section
variable {P : Program}
theorem told_sub {t : TypeId} {k : IntKind} {a b r : Int} (he : k.wrap (a - b) = r) : aBin P .sub t (.int k a) (.int k b) = some (.int k r) := by simp [aBin, aIntOp, he]
theorem told_add {t : TypeId} {k : IntKind} {a b r : Int} (he : k.wrap (a + b) = r) : aBin P .add t (.int k a) (.int k b) = some (.int k r) := by simp [aBin, aIntOp, he]
theorem told_mul {t : TypeId} {k : IntKind} {a b r : Int} (he : k.wrap (a * b) = r) : aBin P .mul t (.int k a) (.int k b) = some (.int k r) := by simp [aBin, aIntOp, he]
theorem told_and {t : TypeId} {k : IntKind} {a b r : Int} (he : k.wrap ((BitVec.ofInt k.bits a &&& BitVec.ofInt k.bits b).toNat : Int) = r) : aBin P .and t (.int k a) (.int k b) = some (.int k r) := by
  subst he
  show (if k = k then _ else none) = _
  rw [if_pos rfl]
  rfl
theorem told_or {t : TypeId} {k : IntKind} {a b r : Int} (he : k.wrap ((BitVec.ofInt k.bits a ||| BitVec.ofInt k.bits b).toNat : Int) = r) : aBin P .or t (.int k a) (.int k b) = some (.int k r) := by
  subst he
  show (if k = k then _ else none) = _
  rw [if_pos rfl]
  rfl
theorem told_xor {t : TypeId} {k : IntKind} {a b r : Int} (he : k.wrap ((BitVec.ofInt k.bits a ^^^ BitVec.ofInt k.bits b).toNat : Int) = r) : aBin P .xor t (.int k a) (.int k b) = some (.int k r) := by
  subst he
  show (if k = k then _ else none) = _
  rw [if_pos rfl]
  rfl
theorem told_andn {t : TypeId} {k : IntKind} {a b r : Int} (he : k.wrap ((BitVec.ofInt k.bits a &&& ~~~BitVec.ofInt k.bits b).toNat : Int) = r) : aBin P .andNot t (.int k a) (.int k b) = some (.int k r) := by
  subst he
  show (if k = k then _ else none) = _
  rw [if_pos rfl]
  rfl
theorem told_shl {t : TypeId} {k k' : IntKind} {a b r : Int} (hb : 0 ≤ b) (he : k.wrap (a * 2 ^ min b.toNat k.bits) = r) : aBin P .shl t (.int k a) (.int k' b) = some (.int k r) := by
  have : ¬ b < 0 := by omega
  simp [aBin, aShift, this, he]
theorem told_shr {t : TypeId} {k k' : IntKind} {a b r : Int} (hb : 0 ≤ b) (he : a.fdiv (2 ^ min b.toNat k.bits) = r) : aBin P .shr t (.int k a) (.int k' b) = some (.int k r) := by
  have : ¬ b < 0 := by omega
  simp [aBin, aShift, this, he]
end
end Go.VM
end
section
/- Slices of pairs of integers. -/
namespace Go.VM
set_option linter.unusedSectionVars false
variable [Inhabited Globs]
open Go.ChangeShapes Go.WideShapes Go.RowKit
abbrev Pr := Int × Int
abbrev pair0 : Pr := (0, 0)
def pairsA : List Pr → List AV
  | [] => []
  | p :: l => I p.1 :: I p.2 :: pairsA l
@[simp] theorem pairsA_nil : pairsA [] = [] := rfl
@[simp] theorem pairsA_cons (p : Pr) (l : List Pr) : pairsA (p :: l) = I p.1 :: I p.2 :: pairsA l := rfl
@[simp] theorem pairsA_len : ∀ l : List Pr, (pairsA l).length = l.length * 2
  | [] => rfl
  | p :: l => by simp [pairsA_len l]; omega
theorem pairsA_append : ∀ l m : List Pr, pairsA (l ++ m) = pairsA l ++ pairsA m
  | [], m => rfl
  | p :: l, m => by simp [pairsA_append l m]
theorem pairsA_drop : ∀ (l : List Pr) (i : Nat), (pairsA l).drop (i * 2) = pairsA (l.drop i)
  | l, 0 => by simp
  | [], i + 1 => by simp
  | p :: l, i + 1 => by
    rw [show (i + 1) * 2 = i * 2 + 1 + 1 by omega]
    simp only [pairsA_cons, List.drop_succ_cons]
    exact pairsA_drop l i
@[simp] theorem pairsA_bnds (a b c : Nat) : ∀ l : List Pr, AV.bnds a b c (pairsA l) = true
  | [] => rfl
  | p :: l => by simp [AV.bnds, AV.bnd, pairsA_bnds a b c l]
theorem pairsA_inj : ∀ {l m : List Pr}, pairsA l = pairsA m → l = m
  | [], [], _ => rfl
  | [], p :: m, h => by simp at h
  | p :: l, [], h => by simp at h
  | (a, b) :: l, (c, d) :: m, h => by
    simp at h
    obtain ⟨h1, h2, h3⟩ := h
    rw [pairsA_inj h3, h1, h2]
@[simp] theorem pairsA_inj' {l m : List Pr} : pairsA l = pairsA m ↔ l = m := ⟨pairsA_inj, fun h => by rw [h]⟩
section
variable {P : Program}
theorem el2_of {t : TypeId} (hu : (elemT P t).bind (sizeT P) = some 2) : ∃ e, P.underlying t = some (.slice e) ∧ sizeT P e = some 2 ∧ elemT P t = some e := by
  cases he : elemT P t with
  | none => rw [he] at hu; cases hu
  | some e =>
    rw [he] at hu
    refine ⟨e, ?_, hu, rfl⟩
    unfold elemT at he
    split at he
    · rename_i e' hq; cases he; exact hq
    · cases he
theorem ix_pairs {t : TypeId} (hu : (elemT P t).bind (sizeT P) = some 2) {l : List Pr} {n : Nat} {r : Room} {k : IntKind} {i : Nat} (h : i < n) (hr : r ≠ .nil) :
    aIndexAddr P t (.sl (pairsA l) n r) (.int k i) = some (.cptr (pairsA (l.drop i))) := by
  obtain ⟨e, hu, hs, _⟩ := el2_of hu
  simp [aIndexAddr, hr, h, pairsA_drop, hu, hs]
theorem ld_pairs {t : TypeId} (hu : (P.underlying t).isSome = true) (ha : isAggT P t = true) (hs : sizeT P t = some 2) {l : List Pr} {i : Nat} (h : i < l.length) :
    aLoad P t (pairsA (l.drop i)) = some (.agg [I (l.getD i pair0).1, I (l.getD i pair0).2]) := by
  cases hq : P.underlying t with
  | none => rw [hq] at hu; cases hu
  | some u =>
    have e : l.drop i = l[i] :: l.drop (i + 1) := List.drop_eq_getElem_cons h
    have e2 : l.getD i pair0 = l[i] := by simp [List.getD_eq_getElem?_getD, List.getElem?_eq_getElem h]
    rw [e, e2, pairsA_cons]
    simp only [aLoad, hq, ha, hs, if_true]
    rw [if_pos (by simp)]
    rfl
end
section
variable {H : Type} {enc : TypeId × Value → H} {P : Program} {w : World} {held : Bool}
end
end Go.VM
end
section
/- Slices of records: each element the same number of flat cells. -/
namespace Go.VM
set_option linter.unusedSectionVars false
variable [Inhabited Globs]
open Go.ChangeShapes Go.WideShapes Go.RowKit
/-- how a record lies in its cells -/
structure Rec (α : Type) where
  e : α → List AV
  v : α → List Value
  z : Nat
  d : α
  pos : 0 < z
  len : ∀ x, (e x).length = z
  vlen : ∀ x, (v x).length = z
  one : ∀ x, (e x).all AV.one = true
  bnds : ∀ a b c x, AV.bnds a b c (e x) = true
  plain : ∀ x, AV.plains (e x) = true
  wk : ∀ x, AV.wkds (e x) = e x
  frz : ∀ a b (h : H) k x, (e x).map (frz a b h (k + 1)) = e x
  rel : ∀ (G : Ghost) x, VRels G (e x) (v x)
namespace Rec
variable {α : Type} (R : Rec α)
def cells : List α → List AV
  | [] => []
  | x :: l => R.e x ++ cells l
@[simp] theorem cells_nil : R.cells [] = [] := rfl
theorem cells_cons (x : α) (l : List α) : R.cells (x :: l) = R.e x ++ R.cells l := rfl
theorem cells_len : ∀ l : List α, (R.cells l).length = l.length * R.z
  | [] => by simp
  | x :: l => by simp only [cells, List.length_append, R.len, cells_len l, List.length_cons, Nat.add_mul, Nat.one_mul]; omega
theorem cells_append : ∀ l m : List α, R.cells (l ++ m) = R.cells l ++ R.cells m
  | [], m => rfl
  | x :: l, m => by simp only [List.cons_append, cells, cells_append l m, List.append_assoc]
theorem cells_drop : ∀ (l : List α) (i : Nat), (R.cells l).drop (i * R.z) = R.cells (l.drop i)
  | l, 0 => by simp
  | [], i + 1 => by simp
  | x :: l, i + 1 => by
    rw [show (i + 1) * R.z = (R.e x).length + i * R.z by rw [R.len, Nat.add_mul]; omega, cells_cons, List.drop_append, List.drop_eq_nil_of_le (by omega), List.nil_append]
    rw [Nat.add_sub_cancel_left, List.drop_succ_cons]
    exact cells_drop l i
theorem cells_one : ∀ l : List α, (R.cells l).all AV.one = true
  | [] => rfl
  | x :: l => by rw [cells_cons, List.all_append, R.one, cells_one l]; rfl
theorem bnds_append (a b c : Nat) : ∀ l m : List AV, AV.bnds a b c l = true → AV.bnds a b c m = true → AV.bnds a b c (l ++ m) = true
  | [], m, _, h => h
  | x :: l, m, h, k => by
    simp only [AV.bnds, Bool.and_eq_true, List.cons_append] at h ⊢
    exact ⟨h.1, bnds_append a b c l m h.2 k⟩
theorem cells_bnds (a b c : Nat) : ∀ l : List α, AV.bnds a b c (R.cells l) = true
  | [] => rfl
  | x :: l => bnds_append a b c _ _ (R.bnds a b c x) (cells_bnds a b c l)
section
variable {P : Program}
theorem el_of {t : TypeId} (hu : (elemT P t).bind (sizeT P) = some R.z) : ∃ e, P.underlying t = some (.slice e) ∧ sizeT P e = some R.z ∧ elemT P t = some e := by
  cases he : elemT P t with
  | none => rw [he] at hu; cases hu
  | some e =>
    rw [he] at hu
    refine ⟨e, ?_, hu, rfl⟩
    unfold elemT at he
    split at he
    · rename_i e' hq; cases he; exact hq
    · cases he
theorem ix {t : TypeId} (hu : (elemT P t).bind (sizeT P) = some R.z) {l : List α} {n : Nat} {r : Room} {k : IntKind} {i : Nat} (h : i < n) (hr : r ≠ .nil) :
    aIndexAddr P t (.sl (R.cells l) n r) (.int k i) = some (.cptr (R.cells (l.drop i))) := by
  obtain ⟨e, hu, hs, _⟩ := R.el_of hu
  simp [aIndexAddr, hr, h, R.cells_drop, hu, hs]
/-- a type of slices whose elements are z cells -/
def appT (P : Program) (t : TypeId) (z : Nat) : Bool :=
  match elemT P t with
  | some e => match P.info? e, zeroCs P e with
    | some i, some zs => i.size == z && decide (i.bytes ≤ 64) && zs.length == z && !appW t
    | _, _ => false
  | none => false
theorem app_new {t : TypeId} (hT : appT P t R.z = true) {l : List α} {n : Nat} {r : Room} {h : H} (hne : n ≠ 0) (hl : l.length = n) (hn : n ≤ 1000000000) :
    aAppend P t t (.sl [] 0 .full) (.sl (R.cells l) n r) h = some (.sl (R.cells l) n (.tok h.toks.length R.z), { h with toks := h.toks ++ [n] }) := by
  unfold appT at hT
  cases he : elemT P t with
  | none => rw [he] at hT; cases hT
  | some e =>
    rw [he] at hT
    simp only at hT
    cases hi : P.info? e with
    | none => rw [hi] at hT; cases hT
    | some i =>
      cases hz : zeroCs P e with
      | none => rw [hi, hz] at hT; cases hT
      | some z =>
        rw [hi, hz] at hT
        simp only [Bool.and_eq_true, beq_iff_eq, decide_eq_true_eq, Bool.not_eq_true'] at hT
        obtain ⟨⟨⟨h1, h2⟩, h3⟩, h4⟩ := hT
        have hb : n * i.bytes ≤ 2 ^ 47 := Nat.le_trans (Nat.mul_le_mul hn h2) (by decide)
        have hm : n ≤ maxLen := Nat.le_trans hn (by decide)
        have hc := R.cells_len l
        have hp := R.pos
        have ho' : ∀ x ∈ R.cells l, x.one = true := List.all_eq_true.1 (R.cells_one l)
        simp [aAppend, he, hi, hz, h1, h3, h4, slCells, hl, hb, hm, hne, hc]
        first | exact ⟨hp, ho'⟩ | exact ho' | exact ⟨ho', hp⟩
end
section
variable {H : Type} {enc : TypeId × Value → H} {P : Program} {w : World} {held : Bool}
end
end Rec
end Go.VM
end
section
/- Slices of triples of integers, and of nodes: a bool and five integers. -/
namespace Go.VM
set_option linter.unusedSectionVars false
variable [Inhabited Globs]
abbrev Tri := Int × Int × Int
abbrev tri0 : Tri := (0, 0, 0)
def triR : Rec Tri where
  e x := [I x.1, I x.2.1, I x.2.2]
  v x := [.int .i64 x.1, .int .i64 x.2.1, .int .i64 x.2.2]
  z := 3
  d := tri0
  pos := by decide
  len _ := rfl
  vlen _ := rfl
  one _ := rfl
  bnds _ _ _ _ := rfl
  plain _ := rfl
  wk _ := rfl
  frz _ _ _ _ _ := rfl
  rel G x := by simp [VRels, VRel]
def trisA (l : List Tri) : List AV := triR.cells l
abbrev Nd := Bool × Int × Int × Int × Int × Int
abbrev node0 : Nd := (false, 0, 0, 0, 0, 0)
def nodeR : Rec Nd where
  e x := [.bool x.1, I x.2.1, I x.2.2.1, I x.2.2.2.1, I x.2.2.2.2.1, I x.2.2.2.2.2]
  v x := [.bool x.1, .int .i64 x.2.1, .int .i64 x.2.2.1, .int .i64 x.2.2.2.1, .int .i64 x.2.2.2.2.1, .int .i64 x.2.2.2.2.2]
  z := 6
  d := node0
  pos := by decide
  len _ := rfl
  vlen _ := rfl
  one _ := rfl
  bnds _ _ _ _ := rfl
  plain _ := rfl
  wk _ := rfl
  frz _ _ _ _ _ := rfl
  rel G x := by simp [VRels, VRel]
def nodesA (l : List Nd) : List AV := nodeR.cells l
section
variable {P : Program} {t : TypeId}
end
/-- the room of a list that append made -/
def rmz {α : Type} (z : Nat) : List α → Room
  | [] => .nil
  | _ :: _ => .tok 0 z
def tkz {α : Type} : List α → List Nat
  | [] => []
  | l => [l.length]
theorem Rec.app {α : Type} (R : Rec α) {P : Program} {t : TypeId} (hT : Rec.appT P t R.z = true) {l : List α} {x : α} {bs : List (List AV)} (hn : l.length ≤ 1000000) :
    aAppend P t t (.sl (R.cells l) l.length (rmz R.z l)) (.sl (R.e x) 1 .full) ⟨bs, tkz l, []⟩ = some (.sl (R.cells (l ++ [x])) (l ++ [x]).length (rmz R.z (l ++ [x])), ⟨bs, tkz (l ++ [x]), []⟩) := by
  unfold Rec.appT at hT
  cases he : elemT P t with
  | none => rw [he] at hT; cases hT
  | some e =>
    rw [he] at hT
    simp only at hT
    cases hi : P.info? e with
    | none => rw [hi] at hT; cases hT
    | some i =>
      cases hz : zeroCs P e with
      | none => rw [hi, hz] at hT; cases hT
      | some zs =>
        rw [hi, hz] at hT
        simp only [Bool.and_eq_true, beq_iff_eq, decide_eq_true_eq, Bool.not_eq_true'] at hT
        obtain ⟨⟨⟨h1, h2⟩, h3⟩, h4⟩ := hT
        have hb : (l.length + 1) * i.bytes ≤ 2 ^ 47 := Nat.le_trans (Nat.mul_le_mul (show l.length + 1 ≤ 1000001 by omega) h2) (by decide)
        have hm : l.length + 1 ≤ maxLen := Nat.le_trans (show l.length + 1 ≤ 1000001 by omega) (by decide)
        have hc := R.cells_len l
        have hp := R.pos
        have hx := R.len x
        have ho' : ∀ y ∈ R.e x, y.one = true := List.all_eq_true.1 (R.one x)
        have hap : R.cells (l ++ [x]) = R.cells l ++ R.e x := by rw [R.cells_append, R.cells_cons, R.cells_nil, List.append_nil]
        rw [hap]
        cases l with
        | nil => simp [aAppend, he, hi, hz, h1, h3, h4, slCells, hx, rmz, tkz, hp]; exact ⟨ho', by simpa using hb, by decide⟩
        | cons a l =>
          simp [aAppend, he, hi, hz, h1, h3, slCells, hx, rmz, tkz, hp]
          simp at hc hb hm
          exact ⟨hc, ho', hb, hm⟩
@[simp] theorem nodesA_len (l : List Nd) : (nodesA l).length = l.length * 6 := nodeR.cells_len l
@[simp] theorem trisA_len (l : List Tri) : (trisA l).length = l.length * 3 := triR.cells_len l
@[simp] theorem nodesA_bnds (a b c : Nat) (l : List Nd) : AV.bnds a b c (nodesA l) = true := nodeR.cells_bnds a b c l
@[simp] theorem trisA_bnds (a b c : Nat) (l : List Tri) : AV.bnds a b c (trisA l) = true := triR.cells_bnds a b c l
theorem cells_inj_of {α : Type} (R : Rec α) (hi : ∀ x y, R.e x = R.e y → x = y) : ∀ l m : List α, R.cells l = R.cells m → l = m
  | [], [], _ => rfl
  | [], y :: m, h => by
    have := congrArg List.length h
    rw [R.cells_len, R.cells_len] at this
    have hp := R.pos
    simp [Nat.add_mul] at this; omega
  | x :: l, [], h => by
    have := congrArg List.length h
    rw [R.cells_len, R.cells_len] at this
    have hp := R.pos
    simp [Nat.add_mul] at this; omega
  | x :: l, y :: m, h => by
    rw [R.cells_cons, R.cells_cons] at h
    obtain ⟨h1, h2⟩ := List.append_inj h (by rw [R.len, R.len])
    rw [hi x y h1, cells_inj_of R hi l m h2]
@[simp] theorem nodesA_inj {l m : List Nd} : nodesA l = nodesA m ↔ l = m := ⟨cells_inj_of nodeR (by rintro ⟨a, b, c, d, e, f⟩ ⟨a', b', c', d', e', f'⟩ h; simp [nodeR] at h; simp [h]) l m, fun h => by rw [h]⟩
@[simp] theorem trisA_inj {l m : List Tri} : trisA l = trisA m ↔ l = m := ⟨cells_inj_of triR (by rintro ⟨a, b, c⟩ ⟨a', b', c'⟩ h; simp [triR] at h; simp [h]) l m, fun h => by rw [h]⟩
end Go.VM
end
section
/- Slices of pairs that append made. -/
namespace Go.VM
set_option linter.unusedSectionVars false
variable [Inhabited Globs]
end Go.VM
end
section
/- A contract at a small heap holds at every heap that begins so: what lies behind it stays. -/
namespace Go.VM
set_option linter.unusedSectionVars false
variable [Inhabited Globs]
section
variable {P : Program}
/-- blocks that point to one another only -/
def H.closed (h : H) : Prop := h.toks = [] ∧ h.maps = [] ∧ ∀ cs ∈ h.blk, AV.bnds h.blk.length 0 0 cs = true
/-- what is known of the first blocks alone -/
def Ghost.sub (G : Ghost) (nb : Nat) : Ghost := ⟨fun b => if b < nb then G.φ b else none, G.fr, fun _ _ => none, fun _ => none, []⟩
theorem sub_φ {G : Ghost} {nb b : Nat} {c : Nat × Nat} (h : (G.sub nb).φ b = some c) : b < nb ∧ G.φ b = some c := by
  simp only [Ghost.sub] at h
  split at h
  · rename_i q; exact ⟨q, h⟩
  · cases h
theorem sub_below (G : Ghost) (nb : Nat) : G.LeBelow nb 0 0 (G.sub nb) := ⟨fun b c hb h => by simp only [Ghost.sub, if_pos hb]; exact h, fun _ _ _ h => h, fun t n x ht => absurd ht (Nat.not_lt_zero _), fun m c hm => absurd hm (Nat.not_lt_zero _)⟩
theorem SRel.sub {G : Ghost} {h : H} {zs : List (List AV)} {ts : List Nat} {ms : List (List (AV × AV))} {w : World} (hc : h.closed) (s : SRel G ⟨h.blk ++ zs, ts, ms⟩ w) : SRel (G.sub h.blk.length) h w where
  dom := ⟨fun b c hq => (sub_φ hq).1, fun _ _ _ hq => (by cases hq), fun _ _ hq => (by cases hq)⟩
  blk b c hq := by
    obtain ⟨h1, h2⟩ := sub_φ hq
    obtain ⟨cs, arr, e, q1, q2, q2', q3⟩ := s.blk b c h2
    have q4 : h.blk[b]? = some cs := by rw [List.getElem?_append_left h1] at q1; exact q1
    exact ⟨cs, arr, e, q4, q2, q2', VRels.below (sub_below G _) _ _ (hc.2.2 cs (List.mem_of_getElem? q4)) q3⟩
  tok t n ht := by rw [hc.1] at ht; cases ht
  map m c hm := by cases hm
  fr := s.fr
  injφ b b' c c' h1 h2 he := (s.injφ b b' c c' (sub_φ h1).2 (sub_φ h2).2 he).imp id (Or.imp (fun q => by have q : (h.blk ++ zs)[b]? = _ := q; rw [List.getElem?_append_left (sub_φ h1).1] at q; exact q) (fun q => by have q : (h.blk ++ zs)[b']? = _ := q; rw [List.getElem?_append_left (sub_φ h2).1] at q; exact q))
  φfr b c o hq hl := s.φfr b c o (sub_φ hq).2 (fun q => hl (by have q : (h.blk ++ zs)[b]? = _ := q; rw [List.getElem?_append_left (sub_φ hq).1] at q; exact q))
  φtk b c t n cap sz hq ht := by rw [hc.1] at ht; cases ht
  tkle t n x hx := by cases hx
  injtk t t' n n' c cap sz cap' sz' h1 := by rw [hc.1] at h1; cases h1
  injmp m m' c h1 := by cases h1
  bases β hβ := by cases hβ
theorem own_sub {G : Ghost} {h : H} {H' : H} {c : Nat} (hc : h.closed) (ho : Own (G.sub h.blk.length) h c) : ∃ b sb, b < h.blk.length ∧ G.φ b = some (c, sb) ∧ h.blk[b]? ≠ some [] := by
  rcases ho with ⟨b, sb, hb, hl⟩ | ⟨t, n, cap, sz, ht, _⟩ | ⟨m, hm⟩
  · exact ⟨b, sb, (sub_φ hb).1, (sub_φ hb).2, hl⟩
  · rw [hc.1] at ht; cases ht
  · cases hm

theorem CallOk.frame {f : FuncId} {args : List AV} {h : H} {v : AV} (hc : h.closed) (ha : AV.bnds h.blk.length 0 0 args = true) (hv : v.bnd h.blk.length 0 0 = true) (k : CallOk P f args h v h)
    (zs : List (List AV)) (ts : List Nat) (ms : List (List (AV × AV))) : CallOk P f args ⟨h.blk ++ zs, ts, ms⟩ v ⟨h.blk ++ zs, ts, ms⟩ := by
  intro G w vs s hgl hr
  refine Calls.mono (k (G.sub h.blk.length) w vs (s.sub hc) hgl (VRels.below (sub_below G _) _ _ ha hr)) ?_
  rintro e w' ⟨G', u, rfl, st, s', hvu⟩
  let G2 : Ghost := { G with fr := G'.fr }
  have hle : G.Le G2 := ⟨fun _ _ q => q, fun c o x q => st.le.fr c o x q, fun _ _ _ q => q, fun _ _ q => q⟩
  have hno : ∀ c, (∀ b sb, b < h.blk.length → h.blk[b]? ≠ some [] → G.φ b ≠ some (c, sb)) → ¬ Own (G.sub h.blk.length) h c := fun c hn ho => by
    obtain ⟨b, sb, h1, h2, h3⟩ := own_sub (H' := h) hc ho
    exact hn b sb h1 h3 h2
  have hkeep : ∀ c, c < w.heap.size → (∀ b sb, b < h.blk.length → h.blk[b]? ≠ some [] → G.φ b ≠ some (c, sb)) → w'.heap[c]? = w.heap[c]? := fun c hl hn => st.keep c hl (hno c hn)
  have hfr : ∀ c o x, G'.fr c o = some x → c < w.heap.size → (∀ b sb, b < h.blk.length → h.blk[b]? ≠ some [] → G.φ b ≠ some (c, sb)) → G.fr c o = some x := fun c o x q hl hn => by
    rcases st.frnew c o x q with q | q | q
    · exact q
    · omega
    · exact absurd q (hno c hn)
  have hbel : G'.LeBelow h.blk.length 0 0 G2 := ⟨fun b c hb q => (sub_φ (st.pend.1 b c q hb)).2, fun _ _ _ q => q, fun t n x ht => absurd ht (Nat.not_lt_zero _), fun m c hm => absurd hm (Nat.not_lt_zero _)⟩
  have hlv : ∀ b, b < h.blk.length → ((h.blk ++ zs)[b]? = some [] ↔ h.blk[b]? = some []) := fun b hb => by rw [List.getElem?_append_left hb]
  refine ⟨G2, u, rfl, ?_, ?_, VRel.below hbel _ _ hv hvu⟩
  · refine ⟨hle, st.os, st.tape, st.output, st.size, fun c hl hn => hkeep c hl (fun b sb hlt hlive hb => hn (.inl ⟨b, sb, hb, fun q => hlive ((hlv b hlt).1 q)⟩)), fun c ho => .inl ho, rfl, ⟨fun _ _ q _ => q, Nat.le_refl _⟩, fun c o x q => ?_⟩
    rcases st.frnew c o x q with q | q | q
    · exact .inl q
    · exact .inr (.inl q)
    · obtain ⟨b, sb, hlt, hb, hlive⟩ := own_sub (H' := h) hc q
      exact .inr (.inr (.inl ⟨b, sb, hb, fun q => hlive ((hlv b hlt).1 q)⟩))
  · refine ⟨⟨s.dom.φ, s.dom.tk, s.dom.mp⟩, ?_, ?_, ?_, s'.fr, s.injφ, ?_, s.φtk, s.tkle, s.injtk, s.injmp, s.bases⟩
    · intro b c hb
      by_cases hlt : b < h.blk.length
      · have hb' : G'.φ b = some c := st.le.φ b c (by simp only [Ghost.sub, if_pos hlt]; exact hb)
        obtain ⟨cs, arr, e, q1, q2, q2', q3⟩ := s'.blk b c hb'
        exact ⟨cs, arr, e, by rw [List.getElem?_append_left hlt]; exact q1, q2, q2', VRels.below hbel _ _ (hc.2.2 cs (List.mem_of_getElem? q1)) q3⟩
      · obtain ⟨cs, arr, e, q1, q2, q2', q3⟩ := s.blk b c hb
        have hl : c.1 < w.heap.size := s.φ_lt hb
        by_cases hd : (h.blk ++ zs)[b]? = some []
        · -- dead: whatever was done there
          have q1' : (h.blk ++ zs)[b]? = some cs := q1
          rw [hd] at q1'; cases q1'
          by_cases hx : ∃ b' sb, b' < h.blk.length ∧ h.blk[b']? ≠ some [] ∧ G.φ b' = some (c.1, sb)
          · obtain ⟨b', sb, h1, h2, h3⟩ := hx
            obtain ⟨_, arr1, e1, _, g2, g2', _⟩ := s.blk b' _ h3
            rw [q2] at g2; cases g2
            have hb' : G'.φ b' = some (c.1, sb) := st.le.φ b' _ (by simp only [Ghost.sub, if_pos h1]; exact h3)
            obtain ⟨_, arr2, e2, _, k2, k2', _⟩ := s'.blk b' _ hb'
            exact ⟨[], arr2, e2, hd, k2, by rw [k2', ← q2', g2'], by simp [VRels]⟩
          · refine ⟨[], arr, e, hd, ?_, q2', by simp [VRels]⟩
            rw [hkeep c.1 hl (fun b' sb h1 h2 h3 => hx ⟨b', sb, h1, h2, h3⟩)]; exact q2
        · refine ⟨cs, arr, e, q1, ?_, q2', VRels.mono hle _ _ q3⟩
          rw [hkeep c.1 hl (fun b' sb hb' hlv' hq => by
            rcases s.injφ b b' c _ hb hq rfl with q | q | q
            · omega
            · exact hd q
            · exact hlv' ((hlv b' hb').1 q))]; exact q2
    · intro t n ht
      obtain ⟨c, cap, size, cur, e, q1, q2, q3, q4, q5, q6⟩ := s.tok t n ht
      have hl : c < w.heap.size := s.own_lt (.inr (.inl ⟨t, n, cap, size, ht, q1⟩))
      have hn : ∀ b sb, b < h.blk.length → h.blk[b]? ≠ some [] → G.φ b ≠ some (c, sb) := fun b sb _ _ hq => s.φtk b (c, sb) t n cap size hq ht q1
      exact ⟨c, cap, size, cur, e, q1, by rw [hkeep c hl hn]; exact q2, q3, q4, q5, fun o x hx => q6 o x (hfr c o x hx hl hn)⟩
    · intro m c hm
      have hl : c < w.heap.size := s.own_lt (.inr (.inr ⟨m, hm⟩))
      obtain ⟨M, es, ck, q1, q2, q3⟩ := s.map m c hm
      have hn : ∀ b sb, b < h.blk.length → h.blk[b]? ≠ some [] → G.φ b ≠ some (c, sb) := fun b sb _ _ hq => by
        obtain ⟨cs, arr, e, _, q5, _⟩ := s.blk b (c, sb) hq
        rw [q2] at q5; cases q5
      exact ⟨M, es, ck, q1, by rw [hkeep c hl hn]; exact q2, q3.mono hle⟩
    · intro b c o hb hlive
      have hlive : (h.blk ++ zs)[b]? ≠ some [] := hlive
      by_cases hlt : b < h.blk.length
      · exact s'.φfr b c o (st.le.φ b c (by simp only [Ghost.sub, if_pos hlt]; exact hb)) (fun q => hlive ((hlv b hlt).2 q))
      · have hl : c.1 < w.heap.size := s.φ_lt hb
        cases hq : G2.fr c.1 o with
        | none => rfl
        | some x =>
          have := hfr c.1 o x hq hl (fun b' sb hb' hlv' hq' => by
            rcases s.injφ b b' c _ hb hq' rfl with q | q | q
            · omega
            · exact hlive q
            · exact hlv' ((hlv b' hb').1 q))
          rw [s.φfr b c o hb hlive] at this; cases this
/-- a contract of what reads the first blocks hp of the heap, and leaves them -/
def fctr {M : FuncId → Bool} {f : FuncId} {fn : Func} (k : FokM P M f fn) (hp : H) {X : Type} (args : X → List AV) (pre : X → Prop) (v : X → AV)
    (det : ∀ x y, args x = args y → pre x → pre y → v x = v y) (hc : hp.closed) (ha : ∀ x, pre x → AV.bnds hp.blk.length 0 0 (args x) = true) (hv : ∀ x, pre x → (v x).bnd hp.blk.length 0 0 = true)
    (run : ∀ x, pre x → ∃ cs p n, Ctrs P M cs ∧ Body ⟨P, Sof cs, p, hp.base, n⟩ M fn (args x) hp (v x, hp)) : Ctr P where
  f := f
  X := X
  args := args
  pre x h := pre x ∧ ∃ zs, h.blk = hp.blk ++ zs
  res x h := (v x, h)
  det x y h e p q := by rw [det x y e p.1 q.1]
  ok x h hp' := by
    obtain ⟨hx, zs, hz⟩ := hp'
    refine ⟨k.call, ?_⟩
    obtain ⟨cs, p, n, hcs, hb⟩ := run x hx
    have := CallOk.frame hc (ha x hx) (hv x hx) (hb.run k hcs rfl) zs h.toks h.maps
    rw [← hz] at this
    exact this
theorem fctr_reads {M : FuncId → Bool} {f : FuncId} {fn : Func} (k : FokM P M f fn) (hp : H) {X : Type} (args : X → List AV) (pre : X → Prop) (v : X → AV)
    (det : ∀ x y, args x = args y → pre x → pre y → v x = v y) (hc : hp.closed) (ha : ∀ x, pre x → AV.bnds hp.blk.length 0 0 (args x) = true) (hv : ∀ x, pre x → (v x).bnd hp.blk.length 0 0 = true)
    (run : ∀ x, pre x → ∃ cs p n, Ctrs P M cs ∧ Body ⟨P, Sof cs, p, hp.base, n⟩ M fn (args x) hp (v x, hp)) : (fctr k hp args pre v det hc ha hv run).Reads :=
  ⟨fun _ _ _ => rfl, fun x h zs hx => ⟨⟨hx.1, by
    obtain ⟨_, z1, hz⟩ := hx
    exact ⟨z1 ++ zs, by show h.blk ++ zs = _; rw [hz, List.append_assoc]⟩⟩, rfl⟩⟩
/-! ### a table of calls at single heaps, for regions that are run in all their orders -/
structure TRow (P : Program) where
  f : FuncId
  args : List AV
  h : H
  v : AV
  h' : H
  ok : callable P f = true ∧ CallOk P f args h v h'
end
end Go.VM
end
section
/- Package variables that are laid: tables of integers, by their cells. -/
namespace Go.VM
open Go.ChangeShapes Go.WideShapes Go.RowKit

theorem laid_ints {P : Program} {W : World} {name : String} {g : Nat} {t e : TypeId} {k : IntKind} {zs : List Int} {rest : List (String × DataW Unit)} {ps : List MemPlace}
    (hL : DataW.LaidVars P W ((name, .agg (zs.map fun z => .lit (.int k z))) :: rest) ps) (hg : P.globalNamed name = some g) (ht : (P.globals[g]?).map (·.type) = some t)
    (hu : P.underlying t = some (.array zs.length e)) (he : P.underlying e = some (.int k)) (hc : P.cellsOf e = 1) :
    (∀ (i : Nat) (v : Value), (zs.map fun z => Value.int k z)[i]? = some v → W.cell? ⟨g, i, none⟩ = some v) ∧ ∃ qs, DataW.LaidVars P W rest qs := by
  obtain ⟨g', t', cs, fuel, p, q, hg', ht', hv, hd, hr, _⟩ := hL
  obtain rfl := Option.some.inj (hg.symm.trans hg')
  obtain rfl := Option.some.inj (ht.symm.trans ht')
  refine ⟨fun i v hi => ?_, q, hr⟩
  obtain ⟨xs, m, _, ex, _, hl, hel⟩ := DataW.trod_array hu hd
  rw [List.getElem?_map, Option.map_eq_some_iff] at hi
  obtain ⟨z, hz, rfl⟩ := hi
  have hlt : i < zs.length := (List.getElem?_eq_some_iff.1 hz).1
  have hE := hel i hlt
  rw [hc, Nat.mul_one, List.getElem?_eq_getElem (by omega)] at hE
  obtain ⟨z', e1, e2, _⟩ := DataW.trod_int he hE
  have e3 : (xs.map (·.1)) = zs.map fun n => .lit (.int k n) := (DataW.agg.inj (Prod.mk.inj ex).1).symm
  have e4 : (xs.map (·.1))[i]? = (zs.map fun n => (DataW.lit (.int k n) : DataW Unit))[i]? := by rw [e3]
  rw [List.getElem?_map, List.getElem?_map, List.getElem?_eq_getElem (by omega : i < xs.length), hz, e2] at e4
  have hzz : z' = z := by
    simp only [Option.map_some, Option.some.injEq, DataW.lit.injEq, Lit.int.injEq, true_and] at e4
    exact e4
  subst hzz
  rw [World.var?_cell hg hv i]
  have : cs.toList[i]? = some (.int k z') := by
    have h0 : ((cs.toList.drop i).take 1)[0]? = some (.int k z') := by rw [e1]; rfl
    simpa using h0
  simpa using this
end Go.VM
end
