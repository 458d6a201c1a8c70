/- Regions that draw their order: slots, and what stands before what. -/
import Derived.Test.YtbadfaiepgfpdaaVmM
namespace Go.VM
section
variable {P : Program}

theorem map_congr' {A A' : List AV} {xs : List Operand} (h : ∀ x ∈ xs, aev A x = aev A' x) : xs.map (aev A) = xs.map (aev A') := List.map_congr_left h

theorem aop_congr {S : Summ} {β : Base} {o : Oper} {A A' : List AV} (hh : ∀ x ∈ o.op.operands, aev A x = aev A' x) (h : H) : aop P S β o A h = aop P S β o A' h := by
  have parts : ∀ (ps : Array (Nat × Operand)), (∀ x ∈ (ps.toList.map (·.2)), aev A x = aev A' x) → ps.toList.map (fun (i, x) => (i, aev A x)) = ps.toList.map (fun (i, x) => (i, aev A' x)) := fun ps hp =>
    List.map_congr_left fun q hq => by
      have := hp q.2 (List.mem_map.2 ⟨q, hq, rfl⟩)
      simp [this]
  have opt : ∀ (x : Option Operand), (∀ y ∈ x.toArray, aev A y = aev A' y) → x.map (aev A) = x.map (aev A') := fun x hx => by
    cases x with
    | none => rfl
    | some y => simp [hx y (by simp)]
  cases hop : o.op <;> simp only [hop, Op.operands] at hh <;> simp only [aop, hop]
  case build t ps => rw [parts ps (fun x hx => hh x (by simpa using hx))]
  case buildSlice t n ps => rw [parts ps (fun x hx => hh x (by simpa using hx))]
  case slice t x lo hi mx =>
    rw [hh x (by simp), opt lo (fun y hy => hh y (by simp at hy ⊢; simp [hy])), opt hi (fun y hy => hh y (by simp at hy ⊢; simp [hy])), opt mx (fun y hy => hh y (by simp at hy ⊢; simp [hy]))]
  case makeMap t x => rw [opt x hh]
  case makeFunc f a b =>
    rw [map_congr' (xs := a.toList) (fun x hx => hh x (by simp at hx ⊢; simp [hx])), map_congr' (xs := b.toList) (fun x hx => hh x (by simp at hx ⊢; simp [hx]))]
  case call c =>
    have hargs : c.args.toList.map (aev A) = c.args.toList.map (aev A') := map_congr' (fun x hx => hh x (by simp at hx; simp [Call.operands, hx]))
    rw [hargs]
    cases hc : c.callee with
    | value f => simp only; rw [hh f (by simp [Call.operands, hc])]
    | invoke r m => rfl
    | builtin b => rfl
  case move x => rw [hh x (by simp)]
  case assign x => rw [hh x (by simp)]
  case pick a b c => rw [hh a (by simp), hh b (by simp), hh c (by simp)]
  case box e x => rw [hh x (by simp)]
  case load t x => rw [hh x (by simp)]
  case nilCheck x => rw [hh x (by simp)]
  case unOp op t x => rw [hh x (by simp)]
  case convert s t x => rw [hh x (by simp)]
  case fieldAddr t x f => rw [hh x (by simp)]
  case field t x f => rw [hh x (by simp)]
  case extract x i => rw [hh x (by simp)]
  case store t a b => rw [hh a (by simp), hh b (by simp)]
  case binOp op t a b ty => rw [hh a (by simp), hh b (by simp)]
  case makeSlice t a b => rw [hh a (by simp), hh b (by simp)]
  case indexAddr t a b => rw [hh a (by simp), hh b (by simp)]
  case index t a b => rw [hh a (by simp), hh b (by simp)]
  case lookup t a b ok => rw [hh a (by simp), hh b (by simp)]
  case mapUpdate t a b c => rw [hh a (by simp), hh b (by simp), hh c (by simp)]
  case insert t a b c => rw [hh a (by simp), hh b (by simp), hh c (by simp)]

theorem aev_of_slots {A A' : List AV} {x : Operand} (h : ∀ t, x = .tmp t → A[t]? = A'[t]?) : aev A x = aev A' x := by
  cases x <;> simp only [aev]
  rename_i t
  simp [List.getD, h t rfl]

/-! ### what stands before what -/
def isAnc (b : Array Nat) (i j : Nat) : Bool := (b.getD j 0).testBit i

def edgesIn (acc : Array Nat) (l : List Edge) (s : Nat) : Nat := l.foldl (fun s e => if Region.binds .any e then s ||| 2 ^ e.on ||| acc.getD e.on 0 else s) s

theorem edgesIn_bit {acc : Array Nat} {i : Nat} : ∀ {l : List Edge} {s : Nat}, (edgesIn acc l s).testBit i = true → s.testBit i = true ∨ ∃ e ∈ l, Region.binds .any e = true ∧ (i = e.on ∨ (acc.getD e.on 0).testBit i = true)
  | [], s, h => .inl h
  | e :: l, s, h => by
    simp only [edgesIn, List.foldl_cons] at h
    rcases edgesIn_bit (l := l) h with h1 | ⟨e', h1, h2⟩
    · split at h1
      · rename_i hb
        simp only [Nat.testBit_or, Bool.or_eq_true, Nat.testBit_two_pow, decide_eq_true_eq] at h1
        rcases h1 with (h1 | h1) | h1
        · exact .inl h1
        · exact .inr ⟨e, by simp, hb, .inl h1.symm⟩
        · exact .inr ⟨e, by simp, hb, .inr h1⟩
      · exact .inl h1
    · exact .inr ⟨e', by simp [h1], h2⟩

def BeforeOk (ops : List Oper) (acc : Array Nat) : Prop :=
  acc.size = ops.length ∧ ∀ (j i : Nat) (o : Oper), ops[j]? = some o → isAnc acc i j = true → ∃ e ∈ o.after, Region.binds .any e = true ∧ (i = e.on ∨ (e.on < j ∧ isAnc acc i e.on = true))

theorem before_go : ∀ (rest done : List Oper) (acc : Array Nat), BeforeOk done acc →
    BeforeOk (done ++ rest) (rest.foldl (init := acc) fun acc o => acc.push (o.after.foldl (fun s e => if Region.binds .any e then s ||| 2 ^ e.on ||| acc.getD e.on 0 else s) 0))
  | [], done, acc, h => by simpa using h
  | o :: rest, done, acc, h => by
    simp only [List.foldl_cons]
    have := before_go rest (done ++ [o]) (acc.push (o.after.foldl (fun s e => if Region.binds .any e then s ||| 2 ^ e.on ||| acc.getD e.on 0 else s) 0)) ?_
    · simpa using this
    · obtain ⟨hs, hh⟩ := h
      have hold : ∀ j, j < acc.size → (acc.push (o.after.foldl (fun s e => if Region.binds .any e then s ||| 2 ^ e.on ||| acc.getD e.on 0 else s) 0)).getD j 0 = acc.getD j 0 := fun j hj => by
        simp [Array.getD_eq_getD_getElem?, Array.getElem?_push_lt hj, hj]
      refine ⟨by simp [hs], fun j i o' ho hb => ?_⟩
      by_cases hj : j < done.length
      · rw [List.getElem?_append_left hj] at ho
        simp only [isAnc, hold j (by omega)] at hb
        obtain ⟨e, h1, h2, h3⟩ := hh j i o' ho hb
        refine ⟨e, h1, h2, h3.imp id fun ⟨q1, q2⟩ => ⟨q1, ?_⟩⟩
        simp only [isAnc, hold e.on (by omega)]; exact q2
      · rw [List.getElem?_append_right (by omega)] at ho
        have hj' : j = acc.size := by
          have := (List.getElem?_eq_some_iff.1 ho).1
          simp at this; omega
        subst hj'
        simp [hs] at ho; subst ho
        have hval : (acc.push (o.after.foldl (fun s e => if Region.binds .any e then s ||| 2 ^ e.on ||| acc.getD e.on 0 else s) 0)).getD acc.size 0 = edgesIn acc o.after.toList 0 := by
          simp [Array.getD_eq_getD_getElem?, edgesIn, Array.foldl_toList]
        simp only [isAnc, hval] at hb
        rcases edgesIn_bit hb with q | ⟨e, q1, q2, q3⟩
        · simp at q
        · refine ⟨e, by simpa using q1, q2, q3.imp id fun q => ?_⟩
          have hlt : e.on < acc.size := by
            rcases Nat.lt_or_ge e.on acc.size with q' | q'
            · exact q'
            · simp [Array.getD_eq_getD_getElem?, Array.getElem?_eq_none q'] at q
          exact ⟨hlt, by simp only [isAnc, hold _ hlt]; exact q⟩

theorem before_ok (ops : Array Oper) : BeforeOk ops.toList (Region.before ops) := by
  have := before_go ops.toList [] #[] ⟨rfl, fun j i o ho => by simp at ho⟩
  simpa [Region.before, Array.foldl_toList] using this

/-- closed under the edges that bind -/
def Closed (ops : Array Oper) (D : Nat → Bool) : Prop := ∀ (j : Nat) (o : Oper), ops[j]? = some o → D j = true → ∀ e ∈ o.after, Region.binds .any e = true → D e.on = true

theorem anc_closed {ops : Array Oper} {D : Nat → Bool} (hD : Closed ops D) : ∀ (n j : Nat), j ≤ n → ∀ (i : Nat) (o : Oper), ops[j]? = some o → (∀ e ∈ o.after, Region.binds .any e = true → D e.on = true) → isAnc (Region.before ops) i j = true → D i = true := by
  intro n
  induction n with
  | zero =>
    intro j hj i o ho hp hb
    obtain ⟨e, h1, h2, h3⟩ := (before_ok ops).2 j i o (by simpa using ho) hb
    rcases h3 with rfl | ⟨h3, _⟩
    · exact hp e h1 h2
    · omega
  | succ n ih =>
    intro j hj i o ho hp hb
    obtain ⟨e, h1, h2, h3⟩ := (before_ok ops).2 j i o (by simpa using ho) hb
    rcases h3 with rfl | ⟨h3, h4⟩
    · exact hp e h1 h2
    · have hon := hp e h1 h2
      obtain ⟨o', ho'⟩ : ∃ o', ops[e.on]? = some o' := by
        have : j < ops.size := (Array.getElem?_eq_some_iff.1 ho).1
        exact ⟨ops[e.on], by simp [show e.on < ops.size by omega]⟩
      exact ih e.on (by omega) i o' ho' (fun e' he' hb' => hD e.on o' ho' hon e' he' hb') h4

theorem anc_in {ops : Array Oper} {D : Nat → Bool} (hD : Closed ops D) {i j : Nat} {o : Oper} (ho : ops[j]? = some o) (hj : D j = true) (hb : isAnc (Region.before ops) i j = true) : D i = true :=
  anc_closed hD j j (Nat.le_refl _) i o ho (fun e he hb => hD j o ho hj e he hb) hb

def names (ops : Array Oper) (o : Oper) : List Tmp := o.looksAt ops ++ o.dst.toList

def hazard (ops : Array Oper) (x y : Oper) : Bool := x.dst.any (fun d => (names ops y).contains d) || y.dst.any (fun d => (names ops x).contains d)

/-- a region whose every order comes to the order of the text: slots, effects behind all that reads -/
def simpleRegion (ops : Array Oper) : Bool :=
  let b := Region.before ops
  let l := ops.toList.zipIdx
  l.all fun (y, j) =>
    (y.after.toList.all fun e => !Region.binds .any e || decide (e.on < j)) && (quietKind y.op || allocKind y.op || effKind y.op) &&
    l.all fun (x, i) =>
      (!decide (i < j) || !hazard ops x y || isAnc b i j) &&
      (!effKind y.op || !(readsH x.op || allocKind x.op) || (isAnc b i j && decide (i < j))) &&
      (!decide (i < j) || !(effKind x.op && effKind y.op) || isAnc b i j)

structure Simple (ops : Array Oper) : Prop where
  edge : ∀ (j : Nat) (y : Oper), ops[j]? = some y → ∀ e ∈ y.after, Region.binds .any e = true → e.on < j
  kind : ∀ (j : Nat) (y : Oper), ops[j]? = some y → quietKind y.op = true ∨ allocKind y.op = true ∨ effKind y.op = true
  slot : ∀ (i j : Nat) (x y : Oper), ops[i]? = some x → ops[j]? = some y → i < j → hazard ops x y = true → isAnc (Region.before ops) i j = true
  read : ∀ (i j : Nat) (x y : Oper), ops[i]? = some x → ops[j]? = some y → effKind y.op = true → (readsH x.op = true ∨ allocKind x.op = true) → isAnc (Region.before ops) i j = true ∧ i < j
  eff : ∀ (i j : Nat) (x y : Oper), ops[i]? = some x → ops[j]? = some y → i < j → effKind x.op = true → effKind y.op = true → isAnc (Region.before ops) i j = true

theorem simple_of {ops : Array Oper} (h : simpleRegion ops = true) : Simple ops := by
  unfold simpleRegion at h
  have mem : ∀ {j : Nat} {y : Oper}, ops[j]? = some y → (y, j) ∈ ops.toList.zipIdx := fun {j y} hy => by
    rw [List.mem_zipIdx_iff_getElem?]; simpa using hy
  have one : ∀ {j : Nat} {y : Oper}, ops[j]? = some y → _ := fun {j y} hy => List.all_eq_true.1 h (y, j) (mem hy)
  refine ⟨fun j y hy e he hb => ?_, fun j y hy => ?_, fun i j x y hx hy hij hz => ?_, fun i j x y hx hy he hr => ?_, fun i j x y hx hy hij h1 h2 => ?_⟩
  · have := one hy
    simp only [Bool.and_eq_true] at this
    have q := this.1.1
    have := List.all_eq_true.1 q e (by simpa using he)
    simpa [hb] using this
  · have := one hy
    simp only [Bool.and_eq_true, Bool.or_eq_true] at this
    rcases this.1.2 with (q | q) | q
    · exact .inl q
    · exact .inr (.inl q)
    · exact .inr (.inr q)
  · have := one hy
    simp only [Bool.and_eq_true] at this
    have q := List.all_eq_true.1 this.2 (x, i) (mem hx)
    simp only [Bool.and_eq_true] at q
    simpa [hij, hz] using q.1.1
  · have := one hy
    simp only [Bool.and_eq_true] at this
    have q := List.all_eq_true.1 this.2 (x, i) (mem hx)
    simp only [Bool.and_eq_true] at q
    have q2 := q.1.2
    rcases hr with hr | hr
    · simpa [he, hr] using q2
    · simpa [he, hr] using q2
  · have := one hy
    simp only [Bool.and_eq_true] at this
    have q := List.all_eq_true.1 this.2 (x, i) (mem hx)
    simp only [Bool.and_eq_true] at q
    simpa [hij, h1, h2] using q.2
end
end Go.VM
