/- Own texts on reading the model, joined: VmX, VmY, VmZ. -/
import Derived.Test.YtbadfaiepgfpdaaVm5
import Derived.Carry
import Derived.WideShapes
import Derived.ChangeSlices
set_option linter.unusedSimpArgs false
set_option linter.unusedVariables false
set_option linter.unnecessarySimpa false
section
/- Slices of integers, rows and small arrays as abstract values, whatever the program. -/
namespace Go.VM

abbrev small (x : Int) : Prop := -100000 ≤ x ∧ x ≤ 100000
abbrev tiny (x : Int) : Prop := -1000 ≤ x ∧ x ≤ 1000
/-- it fits an int -/
abbrev rng (x : Int) : Prop := -9223372036854775808 ≤ x ∧ x ≤ 9223372036854775807
abbrev I (n : Int) : AV := .int .i64 n
abbrev i0 : Int := 0
def ints (l : List Int) : List AV := l.map I

@[simp] theorem ints_len (l : List Int) : (ints l).length = l.length := by simp [ints]
@[simp] theorem ints_nil : ints [] = [] := rfl
@[simp] theorem ints_cons (x : Int) (l : List Int) : ints (x :: l) = I x :: ints l := rfl
theorem ints_app (l m : List Int) : ints l ++ ints m = ints (l ++ m) := by simp [ints]
theorem ints_drop (l : List Int) (n : Nat) : (ints l).drop n = ints (l.drop n) := by simp [ints]
@[simp] theorem ints_get (l : List Int) (i : Nat) : (ints l)[i]? = (l[i]?).map I := by simp [ints]
theorem ints_inj {l m : List Int} (h : ints l = ints m) : l = m := by
  induction l generalizing m with
  | nil => cases m with
    | nil => rfl
    | cons x m => simp at h
  | cons x l ih => cases m with
    | nil => simp at h
    | cons y m =>
      simp only [ints_cons, List.cons.injEq, AV.int.injEq, true_and] at h
      rw [h.1, ih h.2]
@[simp] theorem ints_bnds (l : List Int) (a b c : Nat) : AV.bnds a b c (ints l) = true := by
  rw [AV.bnds_iff]; intro x hx; simp [ints] at hx; obtain ⟨n, _, rfl⟩ := hx; simp [AV.bnd]
@[simp] theorem ints_one (l : List Int) : (ints l).all AV.one = true := by
  rw [List.all_eq_true]; intro x hx; simp [ints] at hx; obtain ⟨n, _, rfl⟩ := hx; rfl
@[simp] theorem ints_frz (l : List Int) (a b : Nat) (h : H) (k : Nat) : (ints l).map (frz a b h (k + 1)) = ints l := by
  simp [ints, List.map_map]; intro a _; rfl
theorem ints_shift (l : List Int) (a b : Nat) : AV.shifts a b (ints l) = ints l := by
  induction l with
  | nil => rfl
  | cons x l ih => simp only [ints, List.map_cons, AV.shifts, AV.shift] at *; rw [ih]

@[simp] theorem ints_eq {l m : List Int} : ints l = ints m ↔ l = m := ⟨ints_inj, fun h => by rw [h]⟩
/-- the room of a slice that holds these -/
def rok {α : Type} (l : List α) (r : Room) : Prop := l ≠ [] → r ≠ .nil
/-- rows: slices of integers; nil, or empty at any address, or not -/
inductive RK where
  | l | n | e
  deriving DecidableEq, Inhabited
def RK.mt : RK → Bool
  | .l => false
  | _ => true
/-- what a copy is -/
def RK.cl : RK → RK
  | .n => .n
  | _ => .l
abbrev Row := List Int × RK
def rr : RK → Room
  | .l => .no
  | .n => .nil
  | .e => .e
def rowA (x : Row) : AV := .sl (ints x.1) x.1.length (rr x.2)
abbrev row0 : Row := ([], .n)
def rowsA (t : List Row) : List AV := t.map rowA
@[simp] theorem rowsA_len (t : List Row) : (rowsA t).length = t.length := by simp [rowsA]
theorem rowsA_drop (t : List Row) (n : Nat) : (rowsA t).drop n = rowsA (t.drop n) := by simp [rowsA]
@[simp] theorem rowsA_get (t : List Row) (i : Nat) : (rowsA t)[i]? = (t[i]?).map rowA := by simp [rowsA]
@[simp] theorem rowsA_bnds (t : List Row) : AV.bnds 0 0 0 (rowsA t) = true := by
  rw [AV.bnds_iff]; intro x hx; simp only [rowsA, List.mem_map] at hx; obtain ⟨⟨l, b⟩, _, rfl⟩ := hx
  cases b <;> simp [rowA, AV.bnd, Room.bnd, rr]
theorem rowA_inj {x y : Row} (h : rowA x = rowA y) : x = y := by
  obtain ⟨l, b⟩ := x; obtain ⟨m, c⟩ := y
  simp only [rowA, AV.sl.injEq] at h
  obtain ⟨h1, _, h3⟩ := h
  rw [ints_inj h1]
  cases b <;> cases c <;> simp_all [rr]
theorem rowsA_inj {t u : List Row} (h : rowsA t = rowsA u) : t = u := by
  induction t generalizing u with
  | nil => cases u with
    | nil => rfl
    | cons y u => simp [rowsA] at h
  | cons x t ih => cases u with
    | nil => simp [rowsA] at h
    | cons y u =>
      simp only [rowsA, List.map_cons, List.cons.injEq] at h
      rw [rowA_inj h.1, ih h.2]
@[simp] theorem rowsA_eq {t u : List Row} : rowsA t = rowsA u ↔ t = u := ⟨rowsA_inj, fun h => by rw [h]⟩
theorem rr_rok {l : List Int} {b : RK} (h : b.mt = true → l = []) : rok l (rr b) := by
  intro hne hr; cases b
  · simp [rr] at hr
  · exact hne (h rfl)
  · exact hne (h rfl)
section
variable {P : Program}
theorem el_of {t : TypeId} (h : (elemT P t).bind (sizeT P) = some 1) : ∃ e, P.underlying t = some (.slice e) ∧ sizeT P e = some 1 := by
  unfold elemT at h
  split at h
  · exact ⟨_, by assumption, h⟩
  · cases h
theorem ix_rows {t : TypeId} (hu : (elemT P t).bind (sizeT P) = some 1) {l : List Row} {n : Nat} {r : Room} {k : IntKind} {i : Nat} (h : i < n) (hr : r ≠ .nil) :
    aIndexAddr P t (.sl (rowsA l) n r) (.int k i) = some (.cptr (rowsA (l.drop i))) := by
  obtain ⟨e, hu, hs⟩ := el_of hu
  simp [aIndexAddr, hr, h, rowsA_drop, hu, hs]
theorem ld_rows {t : TypeId} (hu : (P.underlying t).isSome = true) (ha : isAggT P t = false) {l : List Row} {i : Nat} (h : i < l.length) :
    aLoad P t (rowsA (l.drop i)) = some (rowA (l.getD i row0)) := by
  cases hq : P.underlying t with
  | none => rw [hq] at hu; cases hu
  | some u => simp [aLoad, hq, ha, h]
theorem sl_rows {t : TypeId} (hu : (elemT P t).bind (sizeT P) = some 1) {l : List Row} {n : Nat} {r : Room} {j : Nat} {h : H} (hj : j < n) (hr : r ≠ .nil) :
    aSlice P t (.sl (rowsA l) n r) none (some (.int .i64 j)) none h = some (.sl (rowsA (l.take j)) j .no) := by
  cases he : elemT P t with
  | none => rw [he] at hu; cases hu
  | some e =>
    rw [he] at hu
    have hs : sizeT P e = some 1 := hu
    have hne : ¬ (j = n) := by omega
    have h1 : (j : Int) ≤ n := by omega
    simp [aSlice, intOf?, aBounds, he, hs, hr, hne, h1, rowsA, List.map_take]
theorem wr (x : Int) (h : -9223372036854775808 ≤ x) (h' : x ≤ 9223372036854775807) : IntKind.i64.wrap x = x := w64 x h h'
theorem ix_ints {t : TypeId} (hu : (elemT P t).bind (sizeT P) = some 1) {l : List Int} {n : Nat} {r : Room} {k : IntKind} {i : Nat} (h : i < n) (hr : r ≠ .nil) :
    aIndexAddr P t (.sl (ints l) n r) (.int k i) = some (.cptr (ints (l.drop i))) := by
  obtain ⟨e, hu, hs⟩ := el_of hu
  simp [aIndexAddr, hr, h, ints_drop, hu, hs]
theorem ix_ints' {t e : TypeId} (hu : P.underlying t = some (.slice e)) (hs : sizeT P e = some 1) {l : List Int} {n : Nat} {r : Room} {k : IntKind} {i : Int} (h0 : 0 ≤ i) (h : i < n) (hr : r ≠ .nil) :
    aIndexAddr P t (.sl (ints l) n r) (.int k i) = some (.cptr (ints (l.drop i.toNat))) := by
  simp [aIndexAddr, hr, h, h0, ints_drop, hu, hs]
theorem ld_ints {t : TypeId} (hu : (P.underlying t).isSome = true) (ha : isAggT P t = false) {l : List Int} {i : Nat} (h : i < l.length) :
    aLoad P t (ints (l.drop i)) = some (I (l.getD i i0)) := by
  cases hq : P.underlying t with
  | none => rw [hq] at hu; cases hu
  | some u => simp [aLoad, hq, ha, h]
end

/-- rooms and tokens of a slice under way -/
def rm {α : Type} (t : Nat) : List α → Room
  | [] => .nil
  | _ :: _ => .tok t 1
def tk {α : Type} : List α → List Nat
  | [] => []
  | x :: l => [(x :: l).length]
/-- a type of slices whose elements are one cell -/
def appT (P : Program) (t : TypeId) : Bool :=
  match elemT P t with
  | some e => match P.info? e, zeroCs P e with
    | some i, some z => i.size == 1 && decide (i.bytes ≤ 24) && z.length == 1
    | _, _ => false
  | none => false
section
variable {P : Program}
theorem appT_of {t : TypeId} (h : appT P t = true) : ∃ e i z, elemT P t = some e ∧ P.info? e = some i ∧ zeroCs P e = some z ∧ i.size = 1 ∧ i.bytes ≤ 24 ∧ z.length = 1 := by
  unfold appT at h
  split at h
  · rename_i e he
    split at h
    · rename_i i z hi hz
      simp only [Bool.and_eq_true, beq_iff_eq, decide_eq_true_eq] at h
      exact ⟨e, i, z, he, hi, hz, h.1.1, h.1.2, h.2⟩
    · cases h
  · cases h
theorem app_new {t : TypeId} (hT : appT P t = true) {cs : List AV} {n : Nat} {r : Room} {h : H} (hne : n ≠ 0) (hl : cs.length = n) (ho : cs.all AV.one = true) (hn : n ≤ 1000000000) :
    aAppend P t t (.sl [] 0 .full) (.sl cs n r) h = some (.sl cs n (.tok h.toks.length 1), { h with toks := h.toks ++ [n] }) := by
  obtain ⟨e, i, z, he, hi, hz, h1, h2, h3⟩ := appT_of hT
  have hb : n * i.bytes ≤ 2 ^ 47 := Nat.le_trans (Nat.mul_le_mul hn h2) (by decide)
  have hm : n ≤ maxLen := Nat.le_trans hn (by decide)
  have ho' : ∀ x ∈ cs, x.one = true := List.all_eq_true.1 ho
  simp [aAppend, he, hi, hz, h1, h3, slCells, hl, hb, hm, hne]
  exact ho'
theorem app_one {t : TypeId} (hT : appT P t = true) {xs : List AV} {c : AV} {n : Nat} {ts : List Nat} {r : Room} (hl : xs.length = n) (ho : c.one = true) (hn : n ≤ 1000000000)
    (hr : (n = 0 ∧ r = .nil ∧ ts = []) ∨ (n ≠ 0 ∧ r = .tok 0 1 ∧ ts = [n])) :
    aAppend P t t (.sl xs n r) (.sl [c] 1 .full) ⟨[], ts, []⟩ = some (.sl (xs ++ [c]) (n + 1) (.tok 0 1), ⟨[], [n + 1], []⟩) := by
  obtain ⟨e, i, z, he, hi, hz, h1, h2, h3⟩ := appT_of hT
  have hb : (n + 1) * i.bytes ≤ 2 ^ 47 := Nat.le_trans (Nat.mul_le_mul (Nat.succ_le_succ hn) h2) (by decide)
  have hm : n + 1 ≤ maxLen := Nat.le_trans (Nat.succ_le_succ hn) (by decide)
  rcases hr with ⟨rfl, rfl, rfl⟩ | ⟨h0, rfl, rfl⟩
  · have : xs = [] := List.length_eq_zero_iff.1 hl
    subst this
    have hb' : i.bytes ≤ 2 ^ 47 := Nat.le_trans h2 (by decide)
    simp [aAppend, he, hi, hz, h1, h3, slCells, ho, hb']
    decide
  · simp [aAppend, he, hi, hz, h1, h3, slCells, ho, hb, hm, hl]
theorem app_rows {t : TypeId} (hT : appT P t = true) {l : List Row} {x : Row} (hn : l.length ≤ 1000000000) :
    aAppend P t t (.sl (rowsA l) l.length (rm 0 l)) (.sl [rowA x] 1 .full) ⟨[], tk l, []⟩ = some (.sl (rowsA (l ++ [x])) (l ++ [x]).length (rm 0 (l ++ [x])), ⟨[], tk (l ++ [x]), []⟩) := by
  have := app_one hT (xs := rowsA l) (c := rowA x) (n := l.length) (ts := tk l) (r := rm 0 l) (by simp) rfl hn (by cases l <;> simp [rm, tk])
  rw [this]
  cases l <;> simp [rm, tk, rowsA]
theorem app_ints {t : TypeId} (hT : appT P t = true) {l : List Int} {x : Int} (hn : l.length ≤ 1000000000) :
    aAppend P t t (.sl (ints l) l.length (rm 0 l)) (.sl [I x] 1 .full) ⟨[], tk l, []⟩ = some (.sl (ints (l ++ [x])) (l ++ [x]).length (rm 0 (l ++ [x])), ⟨[], tk (l ++ [x]), []⟩) := by
  have := app_one hT (xs := ints l) (c := I x) (n := l.length) (ts := tk l) (r := rm 0 l) (by simp) rfl hn (by cases l <;> simp [rm, tk])
  rw [this]
  cases l <;> simp [rm, tk, ints]
end

/-- the body of a function -/
abbrev bd (f : Func) : Code := f.body.getD .skip
structure Fok (P : Program) (f : FuncId) (fn : Func) : Prop where
  mixed : P.follows .mixedOrders = true
  at_ : P.funcs[f]? = some fn
  body : fn.body = some (bd fn)
  simple : allSimple (bd fn) = true
  call : callable P f = true

/-- less said of a room -/
def Room.wk : Room → Room
  | .nil => .nil
  | .e => .e
  | _ => .no
def AV.wk : AV → AV
  | .sl cs n r => .sl cs n r.wk
  | a => a
theorem Room.wk_nil {r : Room} : r.wk = .nil ↔ r = .nil := by cases r <;> simp [Room.wk]
@[simp] theorem rok_wk {α : Type} (l : List α) (r : Room) : rok l r.wk ↔ rok l r := by simp [rok, Room.wk_nil]
theorem rok_idx {α : Type} {l : List α} {r : Room} (h : rok l r) {i : Nat} (hi : i < l.length) : r ≠ .nil := h (by rintro rfl; simp at hi)
theorem rm_wk_bnd (r : Room) : r.wk.bnd 0 = true := by cases r <;> rfl
theorem VRel.wk {G : Ghost} (a : AV) (v : Value) (h : VRel G a v) : VRel G a.wk v := by
  cases a with
  | sl cs n r =>
    simp only [VRel, AV.wk] at *
    rcases h with (⟨rfl, h⟩ | ⟨rfl, h⟩) | ⟨c, o, cap, vs, e, h1, h2, h3, h4⟩
    · exact .inl (.inl ⟨rfl, h⟩)
    · exact .inl (.inr ⟨rfl, h⟩)
    · refine .inr ⟨c, o, cap, vs, e, h1, h2, ?_, h4⟩
      cases r
      · exact h3
      · exact trivial
      · exact trivial
      · exact h3
      · exact trivial
  | _ => exact h
theorem VRels.wk {G : Ghost} : ∀ (as : List AV) (vs : List Value), VRels G as vs → VRels G (as.map AV.wk) vs
  | [], vs, h => h
  | a :: as, vs, h => by
    simp only [VRels, List.map_cons] at *
    obtain ⟨v, vs', e, h1, h2⟩ := h
    exact ⟨v, vs', e, VRel.wk a v h1, VRels.wk as vs' h2⟩

mutual
/-- less said of all rooms -/
def AV.wkd : AV → AV
  | .agg cs => .agg (AV.wkds cs)
  | .tup cs => .tup (AV.wkds cs)
  | .sl cs n r => .sl (AV.wkds cs) n r.wk
  | a => a
def AV.wkds : List AV → List AV
  | [] => []
  | a :: as => AV.wkd a :: AV.wkds as
end
@[simp] theorem wkds_ints (l : List Int) : AV.wkds (ints l) = ints l := by
  induction l with
  | nil => rfl
  | cons x l ih => simp only [ints_cons, AV.wkds, AV.wkd, ih]
theorem RoomOk.wk {G G' : Ghost} {r : Room} {c o n cap : Nat} (h : RoomOk G r c o n cap) : RoomOk G' r.wk c o n cap := by
  cases r
  · exact h
  · exact trivial
  · exact trivial
  · exact h
  · exact trivial
structure Ghost.Less (G G' : Ghost) : Prop where
  φ : ∀ b c, G.φ b = some c → G'.φ b = some c
  fr : ∀ c o v, G.fr c o = some v → G'.fr c o = some v
  mp : ∀ m c, G.mp m = some c → G'.mp m = some c
  fn : ∀ t n, G'.tk t n = none
mutual
/-- no functions, no pointers into tokens: what may be said with less -/
def AV.plain : AV → Bool
  | .agg cs | .tup cs => AV.plains cs
  | .sl cs _ _ => AV.plains cs
  | .bool _ | .int _ _ | .str _ | .nilP | .nilM | .nilF | .nilI | .top => true
  | _ => false
def AV.plains : List AV → Bool
  | [] => true
  | a :: as => AV.plain a && AV.plains as
end
mutual
theorem VRel.less {G G' : Ghost} (h : G.Less G') : ∀ (a : AV) (v : Value), a.plain = true → VRel G a v → VRel G' a.wkd v
  | .bool _, _, _, hv | .int _ _, _, _, hv | .str _, _, _, hv | .nilP, _, _, hv | .nilM, _, _, hv | .nilF, _, _, hv | .nilI, _, _, hv => by simpa only [VRel, AV.wkd] using hv
  | .top, _, _, _ => by simp only [VRel, AV.wkd]
  | .agg cs, v, hb, hv => by
    simp only [VRel, AV.wkd, AV.plain] at *
    obtain ⟨vs, e, hs⟩ := hv; exact ⟨vs, e, VRels.less h cs _ hb hs⟩
  | .tup cs, v, hb, hv => by
    simp only [VRel, AV.wkd, AV.plain] at *
    obtain ⟨vs, e, hs⟩ := hv; exact ⟨vs, e, VRels.less h cs _ hb hs⟩
  | .sl cs n r, v, hb, hv => by
    simp only [VRel, AV.wkd, AV.plain] at *
    rcases hv with (⟨rfl, rfl, hv⟩ | ⟨rfl, rfl, hv⟩) | ⟨c, o, cap, vs, e, h1, h2, h3, hs, hf⟩
    · exact .inl (.inl ⟨rfl, rfl, hv⟩)
    · exact .inl (.inr ⟨rfl, rfl, hv⟩)
    · exact .inr ⟨c, o, cap, vs, e, h1, h2, h3.wk, VRels.less h cs _ hb hs, fun i u hu => h.fr _ _ _ (hf i u hu)⟩
theorem VRels.less {G G' : Ghost} (h : G.Less G') : ∀ (as : List AV) (vs : List Value), AV.plains as = true → VRels G as vs → VRels G' (AV.wkds as) vs
  | [], _, _, hv => by simpa only [VRels, AV.wkds] using hv
  | a :: as, vs, hb, hv => by
    simp only [VRels, AV.wkds, AV.plains, Bool.and_eq_true] at *
    obtain ⟨v, vs', e, h1, h2⟩ := hv; exact ⟨v, vs', e, VRel.less h a v hb.1 h1, VRels.less h as vs' hb.2 h2⟩
end
theorem plains_ints (l : List Int) : AV.plains (ints l) = true := by
  induction l with
  | nil => rfl
  | cons x l ih => simp only [ints_cons, AV.plains, AV.plain, ih, Bool.and_self]

theorem sl_ints {P : Program} {t : TypeId} (hu : (elemT P t).bind (sizeT P) = some 1) {l : List Int} {n : Nat} {k : Int} {h : H} (h0 : 0 ≤ k) (hk : k ≤ n) :
    aSlice P t (.sl (ints l) n .no) none (some (.int .i64 k)) none h = some (.sl (ints (l.take k.toNat)) k.toNat .no) := by
  cases he : elemT P t with
  | none => rw [he] at hu; cases hu
  | some e =>
    rw [he] at hu
    have hs : sizeT P e = some 1 := hu
    simp [aSlice, intOf?, aBounds, he, hs, h0, hk, ints, List.map_take]
@[simp] theorem rowsA_frz (l : List Row) (a b : Nat) (h : H) (k : Nat) : (rowsA l).map (frz a b h (k + 2)) = rowsA l := by
  simp only [rowsA, List.map_map]
  apply List.map_congr_left
  rintro ⟨x, c⟩ _
  cases c <;> simp [rowA, frz, rr]
theorem rowsA_bnds' (l : List Row) (a b c : Nat) : AV.bnds a b c (rowsA l) = true := by
  rw [AV.bnds_iff]; intro x hx; simp only [rowsA, List.mem_map] at hx; obtain ⟨⟨l, b⟩, _, rfl⟩ := hx
  cases b <;> simp [rowA, AV.bnd, Room.bnd, rr]
theorem leave_ints (l : List Int) (n : Nat) : leave ⟨0, 0, 0⟩ (.sl (ints l) n (.tok 0 1)) ⟨[], [n], []⟩ = (.sl (ints l) n (.tok 0 1), ⟨[], [n], []⟩) := by
  simp [leave, AV.bnd, frz, Room.bnd, retok]
theorem leave_rows (l : List Row) : leave ⟨0, 0, 0⟩ (.sl (rowsA l) l.length (rm 0 l)) ⟨[], tk l, []⟩ = (.sl (rowsA l) l.length (rm 0 l), ⟨[], tk l, []⟩) := by
  cases l with
  | nil => rfl
  | cons x l => simp [leave, AV.bnd, frz, Room.bnd, retok, rm, tk, rowsA_bnds']
theorem wkds_rows (l : List Row) : AV.wkds (rowsA l) = rowsA l := by
  induction l with
  | nil => rfl
  | cons x l ih =>
    obtain ⟨x, c⟩ := x
    simp only [rowsA, List.map_cons, AV.wkds] at *
    rw [ih]
    cases c <;> simp [rowA, AV.wkd, rr, Room.wk]
theorem plains_rows (l : List Row) : AV.plains (rowsA l) = true := by
  induction l with
  | nil => rfl
  | cons x l ih =>
    obtain ⟨x, c⟩ := x
    simp only [rowsA, List.map_cons, AV.plains] at *
    simp [ih, rowA, AV.plain, plains_ints]
@[simp] theorem rr_wk (b : RK) : (rr b).wk = rr b := by cases b <;> rfl

/-- what comes back is only read: no room is kept for more -/
theorem CallOk.drop {P : Program} {f : FuncId} {args : List AV} {v : AV} {ts : List Nat} (hc : CallOk P f args .nil v ⟨[], ts, []⟩) (hv : v.plain = true) : CallOk P f args .nil v.wkd .nil := by
  intro G w vs s hr
  refine (hc G w vs s hr).mono ?_
  rintro e w' ⟨G', u, rfl, st, s', hu⟩
  have noφ : ∀ b c, G'.φ b ≠ some c := fun b c h => absurd (s'.dom.φ _ _ h) (Nat.not_lt_zero _)
  have nomp : ∀ b c, G'.mp b ≠ some c := fun b c h => absurd (s'.dom.mp _ _ h) (Nat.not_lt_zero _)
  have notk : ∀ t n x, G.tk t n ≠ some x := fun b c x h => absurd (s.dom.tk _ _ _ h) (Nat.not_lt_zero _)
  refine ⟨⟨G'.φ, G'.fr, fun _ _ => none, G'.mp, G'.bases⟩, u, rfl, ?_, ?_, VRel.less (G := G') (G' := ⟨G'.φ, G'.fr, fun _ _ => none, G'.mp, G'.bases⟩) ⟨fun _ _ h => h, fun _ _ _ h => h, fun _ _ h => h, fun _ _ => rfl⟩ v u hv hu⟩
  · exact ⟨⟨st.le.φ, st.le.fr, fun t n x h => absurd h (notk t n x), st.le.mp⟩, st.os, st.tape, st.output, st.size, st.keep,
      fun c ho => by
        rcases ho with ⟨b, h⟩ | ⟨t, n, cap, z, h, _⟩ | ⟨m, h⟩
        · exact absurd h (noφ b c)
        · simp [H.nil] at h
        · exact absurd h (nomp m c),
      st.bases, ⟨st.pend.1, Nat.le_refl _⟩, st.frnew⟩
  · exact {
      dom := by
        constructor
        · exact fun b c h => absurd h (noφ b c)
        · intro t n x h; cases h
        · exact fun b c h => absurd h (nomp b c)
      blk := fun b c h => absurd h (noφ b c)
      tok := fun t n h => by simp [H.nil] at h
      map := fun b c h => absurd h (nomp b c)
      fr := s'.fr
      injφ := s'.injφ
      φfr := s'.φfr
      φtk := fun b c t n cap z h => absurd h (noφ b c)
      tkle := fun t n x h => by cases h
      injtk := fun t t' n n' c cap z cap' z' h => by simp [H.nil] at h
      injmp := s'.injmp
      bases := fun β hβ => by
        have hb : β ∈ G.bases := by rw [← st.bases]; exact hβ
        obtain ⟨h1, h2, h3, _⟩ := s.bases β hb
        exact ⟨h1, h2, h3, fun b c cs h => absurd h (noφ b c)⟩ }

section
variable {P : Program}
theorem CallOk.wk {f : FuncId} {args : List AV} {h : H} {v : AV} {h' : H} (hc : CallOk P f (args.map AV.wk) h v h') : CallOk P f args h v h' := by
  intro G w vs s hr
  exact hc G w vs s (VRels.wk _ _ hr)

theorem Fok.run {f : FuncId} {fn : Func} (k : Fok P f fn) {p : Pures} {S : Summ} (hp : PureOk P p) (hS : SummOk P S) {n : Nat} {args : List AV} {h : H} {v : AV} {h' : H}
    (he : ebody P p S n fn (bd fn) args h = some (v, h')) : CallOk P f args h v h' :=
  ebody_ok k.mixed hp hS k.at_ k.body k.simple he

/-- a contract of what is read in the empty heap, and leaves it as it is -/
def pctr {f : FuncId} {fn : Func} (k : Fok P f fn) {X : Type} (args : X → List AV) (pre : X → Prop) (v : X → AV)
    (det : ∀ x y, args x = args y → pre x → pre y → v x = v y)
    (ha : ∀ x, AV.bnds 0 0 0 ((args x).map AV.wk) = true) (hv : ∀ x, (v x).bnd 0 0 0 = true)
    {p : Pures} {S : Summ} (hp : PureOk P p) (hS : SummOk P S) (n : X → Nat)
    (run : ∀ x, pre x → ebody P p S (n x) fn (bd fn) ((args x).map AV.wk) .nil = some (v x, .nil)) : PCtr P where
  f := f
  X := X
  args := args
  pre := pre
  v := v
  det := det
  ok x hx := ⟨k.call, fun h => (pure_call (k.run hp hS (run x hx)) (ha x) (hv x) h).wk⟩

/-- the same, of what makes slices that are only read later -/
def lctr {f : FuncId} {fn : Func} (k : Fok P f fn) {X : Type} (args : X → List AV) (pre : X → Prop) (v : X → AV)
    (det : ∀ x y, args x = args y → pre x → pre y → v x = v y)
    (ha : ∀ x, AV.bnds 0 0 0 ((args x).map AV.wk) = true) (hv : ∀ x, (v x).bnd 0 0 0 = true)
    {p : Pures} {S : Summ} (hp : PureOk P p) (hS : SummOk P S) (n : X → Nat)
    (run : ∀ x, pre x → ∃ v0 ts, ebody P p S (n x) fn (bd fn) ((args x).map AV.wk) .nil = some (v0, ⟨[], ts, []⟩) ∧ v0.plain = true ∧ v0.wkd = v x) : PCtr P where
  f := f
  X := X
  args := args
  pre := pre
  v := v
  det := det
  ok x hx := ⟨k.call, fun h => by
    obtain ⟨v0, ts, he, hp0, hw⟩ := run x hx
    have := (k.run hp hS he).drop hp0
    rw [hw] at this
    exact (pure_call this (ha x) (hv x) h).wk⟩
end

theorem acall_b {S : Summ} {f : AV} {args : List AV} {h h' : H} {e b : Bool} (hc : aCall S f args h = some (.bool e, h')) (he : e = b) : aCall S f args h = some (.bool b, h') := by rw [hc, he]
theorem bleaf_t {p : Prop} [Decidable p] {h : H} (hp : p) : (AV.bool true, h) = (AV.bool (decide p), h) := by rw [decide_eq_true hp]
theorem bleaf_f {p : Prop} [Decidable p] {h : H} (hp : ¬ p) : (AV.bool false, h) = (AV.bool (decide p), h) := by rw [decide_eq_false hp]
theorem ileaf {k : IntKind} {a b : Int} {h : H} (e : a = b) : (AV.int k a, h) = (AV.int k b, h) := by rw [e]
end Go.VM
end
section
/- What comes in: values of a fitting shape, opened by their cells' types. -/
namespace Go.VM
open Go.ChangeShapes Go.WideShapes Go.RowKit
section
variable {P : Program} {w : World} {r : Reach} {base : Nat}

theorem has_rng {n : Int} (h : IntKind.i64.has n) : rng n := by
  simp only [IntKind.has, IntKind.min, IntKind.max, IntKind.signed, IntKind.bits, if_true] at h
  simp only [rng]
  omega
theorem cell_int {u : TypeId} {v : Value} (hu : P.underlying u = some (.int .i64)) (h : Cell.okWide P w r base u v) : ∃ n, v = .int .i64 n ∧ rng n := by
  unfold Cell.okWide at h
  rw [hu] at h
  simp only [Cell.ok, hu] at h
  cases v <;> simp only at h
  rename_i k n
  obtain ⟨rfl, hn⟩ := h
  exact ⟨n, rfl, has_rng hn⟩
theorem cell_bool {u : TypeId} {v : Value} (hu : P.underlying u = some .bool) (h : Cell.okWide P w r base u v) : ∃ b, v = .bool b := by
  unfold Cell.okWide at h
  rw [hu] at h
  simp only [Cell.ok, hu] at h
  cases v <;> simp only at h
  exact ⟨_, rfl⟩
theorem agg_cells {t : TypeId} {v : Value} {ts : List TypeId} (hu : isAggT P t = true) (hts : P.cellTypes P.depth t = some ts) (h : Value.okWide P w r base t v) :
    ∃ cs : List Value, v = .agg ⟨cs⟩ ∧ cs.length = P.cellsOf t ∧ ∀ i c, cs[i]? = some c → ∃ u, ts[i % ts.length]? = some u ∧ Cell.okWide P w r base u c := by
  unfold Value.okWide at h
  unfold isAggT at hu
  split at h
  · obtain ⟨⟨cs⟩, rfl, h1, ts', h2, -, h3⟩ := h
    rw [hts] at h2; cases h2
    exact ⟨cs, rfl, by simpa using h1, fun i c hi => h3 i c (by simpa using hi)⟩
  · obtain ⟨⟨cs⟩, rfl, h1, ts', h2, -, h3⟩ := h
    rw [hts] at h2; cases h2
    exact ⟨cs, rfl, by simpa using h1, fun i c hi => h3 i c (by simpa using hi)⟩
  · rename_i hn1 hn2
    split at hu
    · rename_i fs hq; exact absurd hq (hn1 _)
    · rename_i n e hq; exact absurd hq (hn2 _ _)
    · cases hu
theorem val_int {t : TypeId} {v : Value} (hu : P.underlying t = some (.int .i64)) (h : Value.okWide P w r base t v) : ∃ n, v = .int .i64 n ∧ rng n := by
  unfold Value.okWide at h
  rw [hu] at h
  exact cell_int hu h
theorem val_bool {t : TypeId} {v : Value} (hu : P.underlying t = some .bool) (h : Value.okWide P w r base t v) : ∃ b, v = .bool b := by
  unfold Value.okWide at h
  rw [hu] at h
  exact cell_bool hu h
theorem vrel_agg {G : Ghost} {as : List AV} {vs : List Value} (h : VRels G as vs) : VRel G (.agg as) (.agg ⟨vs⟩) := by
  simp only [VRel]; exact ⟨_, rfl, h⟩
theorem vrel_int {G : Ghost} {k : IntKind} {n : Int} : VRel G (.int k n) (.int k n) := by simp only [VRel]
theorem vrel_bool {G : Ghost} {b : Bool} : VRel G (.bool b) (.bool b) := by simp only [VRel]
theorem vrels_nil {G : Ghost} : VRels G [] [] := by simp only [VRels]
theorem vrels_cons {G : Ghost} {a : AV} {as : List AV} {v : Value} {vs : List Value} (h : VRel G a v) (hs : VRels G as vs) : VRels G (a :: as) (v :: vs) := by
  simp only [VRels]; exact ⟨_, _, rfl, h, hs⟩
end
end Go.VM
end
section
/- What comes in: slices of integers and of rows, by the cells that they lie in. -/
namespace Go.VM
open Go.ChangeShapes Go.WideShapes Go.RowKit
section
variable {H : Type} {enc : TypeId × Value → H} {P : Program} {w : World} {held : Bool}

/-- all that lies in the world's cells -/
def seen (w : World) : Nat → Nat → Option Value := fun c o => w.cell? ⟨c, o, none⟩
theorem seen_ok : ∀ c o v, seen w c o = some v → w.cell? ⟨c, o, none⟩ = some v := fun _ _ _ h => h
theorem cell_spot {a : Addr} {v : Value} (h : w.cell? a = some v) : a.spot = none := by
  unfold World.cell? at h
  split at h
  · split at h
    · cases h
    · rename_i hs; simpa using hs
  · cases h
theorem vrels_ints {G : Ghost} (zs : List Int) : VRels G (ints zs) (zs.map fun n => .int .i64 n) := by
  induction zs with
  | nil => simp [VRels]
  | cons x zs ih => simp only [ints_cons, List.map_cons, VRels]; exact ⟨_, _, rfl, by simp [VRel], ih⟩

/-- a slice of integers as a value of a cell -/
theorem open_list {t e : TypeId} {fuel : Nat} {v : Value} {x : DataW H × List MemPlace} (ht : P.underlying t = some (.slice e)) (he : P.underlying e = some (.int .i64)) (hc : P.cellsOf e = 1)
    (h : DataW.trod enc P w 0 (fun _ => true) held fuel t [v] = some x) :
    ∃ (l : List Int) (k : RK), VRel (.ofCells (seen w)) (rowA (l, k)) v ∧ l.length ≤ maxLen ∧ (k.mt = true → l = []) := by
  rcases open_ints ht he hc h with ⟨hv, _⟩ | ⟨a, len, cap, zs, hv, _, hl, hm, hz, _, hcell, _⟩
  · simp only [List.cons.injEq, and_true] at hv; subst hv
    exact ⟨[], .n, by simp [rowA, VRel, rr], by simp, fun _ => rfl⟩
  · simp only [List.cons.injEq, and_true] at hv; subst hv
    simp only [if_true] at hz
    by_cases hc0 : cap = 0
    · obtain rfl : len = 0 := by omega
      subst hc0
      exact ⟨[], .e, by simp only [rowA, VRel, rr]; exact .inl (.inr ⟨by simp, by simp, by simp, a, rfl⟩), by simp, fun _ => rfl⟩
    · have hs : a.spot = none := by
        have := cell_spot (hcell 0 (by omega))
        simpa [Addr.add] using this
      have hlen : (zs.take len).length = len := by rw [List.length_take]; omega
      refine ⟨zs.take len, .l, ?_, by omega, fun h => by cases h⟩
      simp only [rowA, VRel, rr, hlen]
      refine .inr ⟨a.block, a.off, cap, _, ?_, hl, hm, trivial, vrels_ints _, ?_⟩
      · obtain ⟨b, o, s⟩ := a
        simp only at hs; subst hs; rfl
      · intro i u hu
        rw [List.getElem?_map, Option.map_eq_some_iff] at hu
        obtain ⟨n, hn, rfl⟩ := hu
        have hi : i < len := by
          have := (List.getElem?_eq_some_iff.1 hn).1
          omega
        have := hcell i (by omega)
        rw [List.getElem?_take, if_pos hi] at hn
        have hg : zs.getD i 0 = n := by rw [List.getD_eq_getElem?_getD, hn]; rfl
        rw [hg] at this
        obtain ⟨b, o, s⟩ := a
        simp only at hs; subst hs
        rw [addr_add] at this
        exact this
/-- a slice of such, as an argument -/
theorem open_rows {t e f : TypeId} {fuel : Nat} {v : Value} {x : DataW H × List MemPlace} (ht : P.underlying t = some (.slice e)) (hc : P.cellsOf e = 1) (he : P.underlying e = some (.slice f)) (hf : P.underlying f = some (.int .i64)) (hcf : P.cellsOf f = 1)
    (hsp : ∀ (a : Addr) (n c : Nat), v = .slice (some a) n c → a.spot = none)
    (h : DataW.trod enc P w 0 (fun _ => true) held fuel t [v] = some x) :
    ∃ (l : List Row) (r : Room), VRel (.ofCells (seen w)) (.sl (rowsA l) l.length r) v ∧ l.length ≤ maxLen ∧ rok l r ∧ ∀ i, i < l.length → (l.getD i row0).1.length ≤ maxLen ∧ ((l.getD i row0).2.mt = true → (l.getD i row0).1 = []) := by
  rcases DataW.trod_slice ht h with ⟨hv, _⟩ | ⟨a, len, cap, elems, rest, n, _, hv, _, _, hl, hm, hlen, hel, _, _⟩
  · simp only [List.cons.injEq, and_true] at hv; subst hv
    exact ⟨[], .nil, by simp [rowsA, VRel], by simp, by simp [rok], fun i hi => by simp at hi⟩
  · simp only [List.cons.injEq, and_true] at hv; subst hv
    have hs := hsp a len cap rfl
    obtain ⟨b, o, s⟩ := a
    simp only at hs; subst hs
    -- each row
    have each : ∀ i, i < len → ∃ (u : Value) (y : Row), w.cell? ⟨b, o + i, none⟩ = some u ∧ VRel (.ofCells (seen w)) (rowA y) u ∧ y.1.length ≤ maxLen ∧ (y.2.mt = true → y.1 = []) := by
      intro i hi
      have h1 := hel i hi
      rw [hc, Nat.mul_one] at h1
      have h2 : elems[i]? = some (elems[i]'(by omega)) := List.getElem?_eq_getElem (by omega)
      rw [h2, Option.bind_eq_some_iff] at h1
      obtain ⟨cs, hcs, hd⟩ := h1
      obtain ⟨_, hcl, hat⟩ := World.cells?_some hcs
      have h0 := hat 0 (by omega)
      match cs, hcl with
      | [u], _ =>
        obtain ⟨l, k, q1, q2, q3⟩ := open_list he hf hcf hd
        refine ⟨u, (l, k), ?_, q1, q2, q3⟩
        rw [addr_add, addr_add] at h0
        simpa using h0
    have build : ∀ m, m ≤ len → ∃ (l : List Row) (us : List Value), l.length = m ∧ us.length = m ∧ VRels (.ofCells (seen w)) (rowsA l) us ∧ (∀ i u, us[i]? = some u → w.cell? ⟨b, o + i, none⟩ = some u) ∧ ∀ y ∈ l, y.1.length ≤ maxLen ∧ (y.2.mt = true → y.1 = []) := by
      intro m
      induction m with
      | zero => intro _; exact ⟨[], [], rfl, rfl, by simp [rowsA, VRels], fun i u hu => by simp at hu, fun y hy => by simp at hy⟩
      | succ m ih =>
        intro hm'
        obtain ⟨l, us, e1, e2, e3, e4, e5⟩ := ih (by omega)
        obtain ⟨u, y, c1, c2, c3⟩ := each m (by omega)
        refine ⟨l ++ [y], us ++ [u], by simp [e1], by simp [e2], ?_, ?_, ?_⟩
        · have : rowsA (l ++ [y]) = rowsA l ++ [rowA y] := by simp [rowsA]
          rw [this]
          exact e3.append (by simp only [VRels]; exact ⟨_, _, rfl, c2, rfl⟩)
        · intro i v hv
          by_cases hi : i < us.length
          · rw [List.getElem?_append_left hi] at hv; exact e4 i v hv
          · rw [List.getElem?_append_right (by omega)] at hv
            have : i = m := by
              have := (List.getElem?_eq_some_iff.1 hv).1
              simp at this; omega
            subst this
            simp [e2] at hv; subst hv; exact c1
        · intro z hz
          rw [List.mem_append] at hz
          rcases hz with hz | hz
          · exact e5 z hz
          · simp at hz; subst hz; exact c3
    obtain ⟨l, us, e1, e2, e3, e4, e5⟩ := build len (Nat.le_refl _)
    refine ⟨l, .no, ?_, by omega, by simp [rok], fun i hi => ?_⟩
    · simp only [VRel]
      refine .inr ⟨b, o, cap, us, by rw [e1], by omega, hm, trivial, e3, fun i u hu => ?_⟩
      exact e4 i u hu
    · have : l.getD i row0 = l[i] := by simp [List.getD_eq_getElem?_getD, List.getElem?_eq_getElem hi]
      rw [this]; exact e5 _ (List.getElem_mem hi)
theorem val_slice {r : Reach} {base : Nat} {t e : TypeId} {v : Value} (hu : P.underlying t = some (.slice e)) (h : Value.okWide P w r base t v) :
    v.cells.toList = [v] ∧ ∀ (a : Addr) (n c : Nat), v = .slice (some a) n c → a.spot = none := by
  unfold Value.okWide at h
  rw [hu] at h
  simp only at h
  unfold Cell.okWide at h
  rw [hu] at h
  cases v with
  | slice a n c =>
    refine ⟨rfl, ?_⟩
    rintro a' n' c' e
    cases e
    simp only [Cell.ok, hu] at h
    exact h.2.2.2.1
  | _ => simp only [Cell.ok, hu] at h
end
end Go.VM
end
