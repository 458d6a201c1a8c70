/- Own texts on reading the model, joined: VmRo, VmRg, VmRi, VmUp, VmUi, VmBo, VmEn, VmTh, VmTw, VmM7, VmM9, VmDw, VmPp. -/
import Derived.Test.YtdnidpojcocklaaDoorVm7
set_option linter.unusedSimpArgs false
set_option linter.unusedVariables false
set_option linter.unnecessarySimpa false
section
/- Of what an open body leaves, some blocks are kept, at new places, and of each its first cells. -/
namespace Go.VM
set_option linter.unusedSectionVars false
variable [Inhabited Globs]
section
variable {P : Program}
structure KeepOk (σ : Nat → Nat) (n0 : Nat) (B B2 : List (List AV)) : Prop where
  n : n0 ≤ B2.length
  id : ∀ i, i < n0 → σ i = i
  inj : ∀ i j, i < B2.length → j < B2.length → σ i = σ j → i = j ∨ B2[i]? = some [] ∨ B2[j]? = some []
  cells : ∀ i cs2, B2[i]? = some cs2 → ∃ cs1, B[σ i]? = some cs1 ∧ cs2.length ≤ cs1.length ∧ RVs σ B2.length cs2 (cs1.take cs2.length)
theorem VRels.takeN {G : Ghost} : ∀ {xs : List AV} {vs : List Value} (m : Nat), VRels G xs vs → VRels G (xs.take m) (vs.take m)
  | [], vs, m, h => by
    simp only [VRels] at h
    subst h; simp [VRels]
  | x :: xs, vs, 0, h => by simp [VRels]
  | x :: xs, vs, m + 1, h => by
    simp only [VRels] at h
    obtain ⟨v1, vs1, rfl, h1, h2⟩ := h
    simp only [List.take_succ_cons, VRels]
    exact ⟨v1, vs1.take m, rfl, h1, VRels.takeN m h2⟩
theorem KeepOk.dead {σ : Nat → Nat} {n0 : Nat} {B B2 : List (List AV)} (k : KeepOk σ n0 B B2) {i : Nat} (hi : i < B2.length) (h : B[σ i]? = some []) : B2[i]? = some [] := by
  obtain ⟨cs1, h1, h2, _⟩ := k.cells i B2[i] (by simp [hi])
  rw [h] at h1; cases h1
  have : B2[i] = [] := List.length_eq_zero_iff.1 (by simpa using h2)
  rw [List.getElem?_eq_getElem hi, this]
theorem CallOkB.keep {f : FuncId} {args : List AV} {bs B B2 : List (List AV)} {v V : AV} {σ : Nat → Nat} (k : KeepOk σ bs.length B B2) (hv : RV σ B2.length V v)
    (hc : CallOkB P 0 f args ⟨bs, [], []⟩ v ⟨B, [], []⟩) : CallOkB P 0 f args ⟨bs, [], []⟩ V ⟨B2, [], []⟩ := by
  intro G w vs s hb hgl hr
  refine Calls.mono (hc G w vs s hb hgl hr) ?_
  rintro e w' ⟨G1, u, rfl, st, s1, hvu⟩
  let G2 : Ghost := { G1 with φ := fun i => if i < B2.length then G1.φ (σ i) else none }
  have hφ : ∀ {i c}, G2.φ i = some c → i < B2.length ∧ G1.φ (σ i) = some c := fun {i c} h => by
    have h : (if i < B2.length then G1.φ (σ i) else none) = some c := h
    split at h
    · rename_i q; exact ⟨q, h⟩
    · cases h
  have hφ' : ∀ {i}, i < B2.length → G2.φ i = G1.φ (σ i) := fun {i} h => by show (if i < B2.length then G1.φ (σ i) else none) = _; rw [if_pos h]
  have ag : Agree σ B2.length G2 G1 := ⟨fun i hi => hφ' hi, rfl⟩
  have hown : ∀ c, Own G2 ⟨B2, [], []⟩ c → Own G1 ⟨B, [], []⟩ c := fun c ho => by
    rcases ho with ⟨b, sb, hb, hq⟩ | ho
    · obtain ⟨hi, h1⟩ := hφ hb
      exact .inl ⟨σ b, sb, h1, fun q => hq (k.dead hi q)⟩
    · exact .inr ho
  refine ⟨G2, u, rfl, ?_, ?_, (hv _ _ _ ag).2 hvu⟩
  · refine ⟨⟨fun b c q => ?_, st.le.fr, st.le.tk, st.le.mp⟩, st.os, st.tape, st.output, st.size, st.keep, fun c ho => st.own c (hown c ho), st.bases, ⟨fun b c q hlt => ?_, k.n⟩, st.frnew⟩
    · have hlt : b < bs.length := s.dom.φ b c q
      have := k.n
      rw [hφ' (by omega), k.id b hlt]
      exact st.le.φ b c q
    · obtain ⟨_, h1⟩ := hφ q
      have hlt : b < bs.length := hlt
      rw [k.id b hlt] at h1
      exact st.pend.1 b c h1 hlt
  · refine ⟨⟨fun b c q => (hφ q).1, s1.dom.tk, s1.dom.mp⟩, ?_, fun t n ht => by simp at ht, fun m c hm => ?_, s1.fr, ?_, ?_, fun _ _ _ _ _ _ _ ht => by simp at ht, fun _ _ _ _ _ ht => by simp at ht, fun _ _ _ _ _ _ _ _ _ ht => by simp at ht, s1.injmp, fun β hβ => ?_⟩
    · intro i c hq
      obtain ⟨hi, h1⟩ := hφ hq
      obtain ⟨cs, arr, e, q1, q2, q2', q3⟩ := s1.blk _ c h1
      obtain ⟨cs1, g1, g2, g3⟩ := k.cells i B2[i] (by simp [hi])
      have q1 : B[σ i]? = some cs := q1
      rw [g1] at q1; cases q1
      refine ⟨B2[i], arr, e, by simp [hi], q2, q2', (g3 _ _ _ ag).2 ?_⟩
      have := VRels.takeN B2[i].length q3
      rwa [List.take_take, Nat.min_eq_left g2] at this
    · obtain ⟨M, es, ck, q1, _⟩ := s1.map m c hm
      simp at q1
    · intro b b' c c' h1 h2 he
      obtain ⟨hi, h1⟩ := hφ h1
      obtain ⟨hi', h2⟩ := hφ h2
      rcases s1.injφ _ _ c c' h1 h2 he with q | q | q
      · exact k.inj b b' hi hi' q
      · exact .inr (.inl (k.dead hi q))
      · exact .inr (.inr (k.dead hi' q))
    · intro b c o hq hl
      obtain ⟨hi, h1⟩ := hφ hq
      exact s1.φfr _ c o h1 (fun q => hl (k.dead hi q))
    · have hβ' : β ∈ G.bases := by rw [← st.bases]; exact hβ
      have h0 := hb β hβ'
      obtain ⟨h1, h2, h3, _⟩ := s1.bases β hβ
      exact ⟨by omega, h2, h3, fun b c cs hq hlt hcs => by omega⟩
end
end Go.VM
end
section
/- Ranges over functions: what an iterator promises, and the rule of the range. -/
namespace Go.VM
set_option linter.unusedSectionVars false
variable [Inhabited Globs]
section
variable {P : Program}

/-- a world that an abstract heap tells, and blocks that are known -/
structure WS (obs : List (Nat × Obj)) (Ge : Ghost) (he : H) (we : World) (G : Ghost) (h : H) (w : World) : Prop where
  st : Step Ge he we G h w
  s : SRel G h w
  keep : KeepO obs G h w
  gl : GlobOk G
section
variable {obs : List (Nat × Obj)} {Ge G : Ghost} {he h : H} {we w : World}
theorem Stt.ws {ro : Option Nat} {A : List AV} {a : Act} (t : Stt ro obs Ge he we G A h w a) : WS obs Ge he we G h w := ⟨t.st, t.s, t.keep, t.r.gl⟩
theorem WS.put {l : Nat} {r r' : Loop} (k : WS ((l, .loop r) :: obs) Ge he we G h w) (hl : ∀ p ∈ obs, p.1 ≠ l) (hB : we.heap.size ≤ l) : WS ((l, .loop r') :: obs) Ge he we G h (w.putObj l (.loop r')) := by
  obtain ⟨k1, k2⟩ := k.keep (l, .loop r) (by simp)
  refine ⟨k.st.put _ hB, k.s.put _ k2 (cell_loop k1) (fun _ _ _ q => by rw [k1] at q; cases q), fun p hp => ?_, k.gl⟩
  rcases List.mem_cons.1 hp with rfl | hp
  · exact ⟨World.putObj_heap_same (Array.getElem?_eq_some_iff.1 k1).1, k2⟩
  · obtain ⟨q1, q2⟩ := k.keep p (List.mem_cons_of_mem _ hp)
    exact ⟨(World.putObj_heap_other (hl p hp)).trans q1, q2⟩
theorem WS.alloc (k : WS obs Ge he we G h w) (o : Obj) : WS ((w.heap.size, o) :: obs) Ge he we G h (w.alloc o) := by
  refine ⟨k.st.trans (.garbage _ _ _ _), k.s.garbage o, fun p hp => ?_, k.gl⟩
  rcases List.mem_cons.1 hp with rfl | hp
  · exact ⟨World.alloc_heap_new w o, fun ho => Nat.lt_irrefl _ (k.s.own_lt ho)⟩
  · obtain ⟨q1, q2⟩ := k.keep p hp
    exact ⟨by rw [heap_alloc_old w o _ (Array.getElem?_eq_some_iff.1 q1).1]; exact q1, q2⟩
theorem WS.lt (k : WS obs Ge he we G h w) : ∀ p ∈ obs, p.1 < w.heap.size := fun p hp => (Array.getElem?_eq_some_iff.1 (k.keep p hp).1).1
theorem WS.sub {obs' : List (Nat × Obj)} (k : WS obs Ge he we G h w) (hs : ∀ p ∈ obs', p ∈ obs) : WS obs' Ge he we G h w := ⟨k.st, k.s, fun p hp => k.keep p (hs p hp), k.gl⟩
end

/-- a call of yield asks for a round -/
def YieldS (P : Program) (l : Nat) (args : Array Value) (w : World) (R : Ending → World → Prop) : Prop :=
  ∃ fn tmps assign body, (Instr.yield l args).run P w = .ok (.round l fn tmps assign body) w ∧ RoundIn (fen none) 0 P l fn tmps assign body w R
/-- what an iterator promises: from heap h0 its n rounds come with xs 0, xs 1, .., the first one at heap h1; between its rounds it needs of the heap what own says, and does to it what nx says; when a round says no more it ends at once -/
def IterOk (P : Program) (β : Base) (gf : Nat) (cap : List AV) (h0 h1 : H) (n : Nat) (xs : Nat → List AV) (own : Nat → H → Prop) (nx : Nat → H → H) : Prop :=
  callable P gf = true ∧ ∀ (Ge : Ghost) (he : H) (we : World), Ent β Ge he we → ∀ (l : Nat) (obs : List (Nat × Obj)) (obsX : Code → List (Nat × Obj)) (T : Nat → H → Prop) (Tx : Code → H → Prop) (G0 : Ghost) (w0 : World) (cs : Array Value),
    WS obs Ge he we G0 h0 w0 → VRels G0 cap cs.toList →
    (∀ k G h w (args : Array Value), k < n → own k h → T k h → G0.Le G → WS obs Ge he we G h w → VRels G (xs k) args.toList → YieldS P l args w (fun e w' =>
        (e = .returned (.bool true) ∧ ∃ G' h', G.Le G' ∧ WS obs Ge he we G' h' w' ∧ own k h' ∧ T (k + 1) (nx k h')) ∨
        (e = .returned (.bool false) ∧ ∃ c G' h', G.Le G' ∧ WS (obsX c) Ge he we G' h' w' ∧ Tx c h'))) →
    T 0 h1 →
      CallsIn (fen none) 0 P gf (#[.func (.yield l) #[] #[]] ++ cs) w0 (fun e w' => ∃ v, e = .returned v ∧ ∃ G', G0.Le G' ∧ ((∃ h', WS obs Ge he we G' h' w' ∧ T n h') ∨ (∃ c h', WS (obsX c) Ge he we G' h' w' ∧ Tx c h')))

/-! ### a range of a function's code, by its number -/
end
end Go.VM
end
section
/- Iterators: what their code comes to, with calls of yield. -/
namespace Go.VM
set_option linter.unusedSectionVars false
variable [Inhabited Globs]
section
/-- where an iterator runs -/
structure Rx (E : Env) where
  Ge : Ghost
  he : H
  we : World
  en : Ent E.β Ge he we
  /-- what is known of blocks: nothing has jumped, or a jump pends -/
  ob : Option Code → List (Nat × Obj)
  l : Nat
  G0 : Ghost

variable {E : Env} {M : FuncId → Bool} (R : Rx E)
/-- where an iterator is: it defers nothing -/
structure SttI (R : Rx E) (o : Option Code) (G : Ghost) (A : List AV) (h : H) (w : World) (a : Act) : Prop where
  ws : WS (R.ob o) R.Ge R.he R.we G h w
  bare : a.defers = []
  r : ARel G A a
/-- an iterator's code from these slots and this heap -/
def SemI (o : Option Code) (c : Code) (A : List AV) (h : H) (K : Option Code → AX → List AV → H → Prop) : Prop :=
  ∀ (G : Ghost) (w : World) (a : Act), R.G0.Le G → SttI R o G A h w a → ∀ (Q : Exit → Act → World → Prop),
    (∀ o' x A' h' G' a' w', K o' x A' h' → R.G0.Le G' → SttI R o' G' A' h' w' a' → Q x.toExit a' w') → c.wpIn (fen none) 0 E.P Q a w
variable {R} {o : Option Code} {G G' : Ghost} {w w' : World} {a a' : Act} {A A' : List AV} {h h' : H} {K : Option Code → AX → List AV → H → Prop}

theorem SttI.region (t : SttI R o G A h w a) (st : Step G h w G' h' w') (s : SRel G' h' w') (r : ARel G' A' a') : SttI R o G' A' h' w' a' :=
  ⟨⟨t.ws.st.trans st, s, t.ws.keep.step st, r.gl⟩, r.defers, r⟩
theorem SemI.mono {c : Code} {K' : Option Code → AX → List AV → H → Prop} (hc : SemI R o c A h K') (hK : ∀ o' x A' h', K' o' x A' h' → K o' x A' h') : SemI R o c A h K :=
  fun G w a hle t Q hQ => hc G w a hle t Q fun o' x A' h' G' a' w' hk => hQ o' x A' h' G' a' w' (hK _ _ _ _ hk)
theorem SemI.seq {x y : Code} (hx : SemI R o x A h (fun o' e A' h' => match e with | .normal => SemI R o' y A' h' K | e => K o' e A' h')) : SemI R o (.seq x y) A h K := by
  intro G w a hle t Q hQ
  refine wpIn_seq (hx G w a hle t _ (fun o' e A' h' G' a' w' hk hle' t' => ?_))
  cases e with
  | normal => exact hk G' w' a' hle' t' Q hQ
  | exit id => exact hQ o' (.exit id) A' h' G' a' w' hk hle' t'
  | ret => exact hQ o' .ret A' h' G' a' w' hk hle' t'
theorem SemI.cond {c : Operand} {x y : Code} {b : Bool} (hb : aev A c = .bool b) (hx : SemI R o (if b then x else y) A h K) : SemI R o (.cond c x y) A h K := by
  intro G w a hle t Q hQ
  have hc := aev_rel t.r c
  rw [hb] at hc; simp only [VRel] at hc
  cases b
  · exact wpIn_cond_false hc (hx G w a hle t Q hQ)
  · exact wpIn_cond_true hc (hx G w a hle t Q hQ)
theorem SemI.block {id : Nat} {c : Code} (hx : SemI R o c A h (fun o' e A' h' => match e with | .exit i => if i = id then K o' .normal A' h' else K o' (.exit i) A' h' | e => K o' e A' h')) : SemI R o (.block id c) A h K := by
  intro G w a hle t Q hQ
  refine wpIn_block (hx G w a hle t _ (fun o' e A' h' G' a' w' hk hle' t' => ?_))
  cases e with
  | normal => exact hQ o' .normal A' h' G' a' w' hk hle' t'
  | ret => exact hQ o' .ret A' h' G' a' w' hk hle' t'
  | exit i =>
    simp only at hk
    split at hk
    · rename_i hi
      simp only [AX.toExit, Exit.inBlock, hi, if_true]
      exact hQ o' .normal A' h' G' a' w' hk hle' t'
    · rename_i hi
      simp only [AX.toExit, Exit.inBlock, hi, if_false]
      exact hQ o' (.exit i) A' h' G' a' w' hk hle' t'
theorem SemI.skip (hk : K o .normal A h) : SemI R o .skip A h K := fun G w a hle t Q hQ => wpIn_skip (hQ o .normal A h G a w hk hle t)
theorem SemI.ret (hk : K o .ret A h) : SemI R o .ret A h K := fun G w a hle t Q hQ => wpIn_ret (hQ o .ret A h G a w hk hle t)
theorem SemI.exit {id : Nat} (hk : K o (.exit id) A h) : SemI R o (.exit id) A h K := fun G w a hle t Q hQ => wpIn_exit (hQ o (.exit id) A h G a w hk hle t)
theorem SemI.scope {c : Code} (hx : SemI R o c A h K) : SemI R o (.scope c) A h K := by
  intro G w a hle t Q hQ
  refine wpIn_scope (hx G w a hle t _ (fun o' e A' h' G' a' w' hk hle' t' => ?_))
  have hq := hQ o' e A' h' G' a' w' hk hle' t'
  cases e <;> exact hq
/-- a loop by an invariant with a measure -/
theorem SemI.loop {c : Code} (I : Nat → Option Code → List AV → H → Prop)
    (hs : ∀ d o A h, I d o A h → SemI R o c A h (fun o' e A' h' => match e with | .normal => ∃ d', d' < d ∧ I d' o' A' h' | e => K o' e A' h')) {d : Nat} (h0 : I d o A h) : SemI R o (.loop c) A h K := by
  have go : ∀ (f d : Nat), d < f → ∀ (o : Option Code) (A : List AV) (h : H), I d o A h → ∀ (G : Ghost) (w : World) (a : Act), R.G0.Le G → SttI R o G A h w a → ∀ (Q : Exit → Act → World → Prop),
      (∀ o' x A' h' G' a' w', K o' x A' h' → R.G0.Le G' → SttI R o' G' A' h' w' a' → Q x.toExit a' w') → Code.roundsIn (fen none) 0 E.P c Q f a w := by
    intro f
    induction f with
    | zero => intro d hd; omega
    | succ f ih =>
      intro d hd o A h hI G w a hle t Q hQ
      rw [roundsIn_succ]
      refine hs d o A h hI G w a hle t _ (fun o' e A' h' G' a' w' hk hle' t' => ?_)
      cases e with
      | normal =>
        obtain ⟨d', hd', hI'⟩ := hk
        exact ih d' (by omega) o' A' h' hI' G' w' a' hle' t' Q hQ
      | exit id => exact hQ o' (.exit id) A' h' G' a' w' hk hle' t'
      | ret => exact hQ o' .ret A' h' G' a' w' hk hle' t'
  intro G w a hle t Q hQ
  exact wpIn_loop_rounds (d + 1) (go (d + 1) d (Nat.lt_succ_self d) o A h h0 G w a hle t Q hQ)

/-- a region's operations from the k-th on -/
def OpsI (R : Rx E) (ops : Array Oper) (o : Option Code) (l : List Oper) (A : List AV) (h : H) (K : Option Code → List AV → H → Prop) : Prop :=
  ∀ (k : Nat), (∀ j, l[j]? = ops[k + j]?) → ∀ (G : Ghost) (w : World) (a : Act), R.G0.Le G → SttI R o G A h w a → ∀ (Q : Exit → Act → World → Prop),
    (∀ o' A' h' G' a' w', K o' A' h' → R.G0.Le G' → SttI R o' G' A' h' w' a' → Q .normal a' w') → wpOpsIn (fen none) 0 E.P ops Q (List.range' k l.length) a w
theorem SemI.region {id : Nat} {ops : Array Oper} (hx : OpsI R ops o ops.toList A h (fun o' A' h' => K o' .normal A' h')) : SemI R o (.region id ops false) A h K := by
  intro G w a hle t Q hQ
  refine wpIn_region ?_
  have := hx 0 (by simp) G w a hle t Q (fun o' A' h' G' a' w' hk => hQ o' .normal A' h' G' a' w' hk)
  rw [← List.range_eq_range', Array.length_toList] at this
  exact this
variable {ops : Array Oper} {l : List Oper} {K1 : Option Code → List AV → H → Prop}
theorem OpsI.nil (hk : K1 o A h) : OpsI R ops o [] A h K1 := fun k _ G w a hle t Q hQ => hQ o A h G a w hk hle t
theorem OpsI.op (hS : SummB E.P E.β.nb E.S) {p : Oper} (hg : p.guard = none) {v : AV} {h' : H} (he : aop E.P E.S E.β p A h = some (v, h')) (hx : OpsI R ops o l (putA A p.dst v) h' K1) : OpsI R ops o (p :: l) A h K1 := by
  intro k hl G w a hle t Q hQ
  have h0 : ops[k]? = some p := by simpa using (hl 0).symm
  have hl' : ∀ j, l[j]? = ops[k + 1 + j]? := fun j => by have := hl (j + 1); simpa [Nat.add_assoc, Nat.add_comm 1 j] using this
  have hβ' : ∀ γ ∈ G.bases, γ.1 ≤ E.β.nb := by rw [t.ws.st.bases]; exact R.en.bases
  let K0 : Act → World → Prop := fun a' w' => ∃ G', Step G h w G' h' w' ∧ SRel G' h' w' ∧ ARel G' (putA A p.dst v) a'
  have hw : p.wp E.P a w K0 (fun _ _ _ => False) := by
    refine aop_ok hS t.ws.s hβ' t.r he (fun G1 w1 u st1 s1 hv => ?_)
    exact ⟨G1, st1, s1, put_rel (t.r.mono st1.le) hv p.dst⟩
  simp only [List.length_cons, List.range'_succ]
  rw [wpOpsIn_cons]
  unfold wpOpIn
  simp only [h0]
  rw [if_pos (by simp [Region.wanted, hg])]
  have e0 : { a with defers := [] } = a := by rw [← t.bare]
  have := oper_in (a := a) (ds := []) (n := 0) (ro := none) (K := wpOpsIn (fen none) 0 E.P ops Q (List.range' (k + 1) l.length)) (Q := Q) t.bare (fun a' w' hk => by obtain ⟨_, _, _, r⟩ := hk; exact r.defers) (fun a' w' hk => ?_) (fun _ _ _ hq => hq.elim) hw
  · rwa [e0] at this
  · obtain ⟨G1, st1, s1, r1⟩ := hk
    have e1 : { a' with defers := [] } = a' := by rw [← r1.defers]
    rw [e1]
    exact hx (k + 1) hl' G1 w' _ (hle.trans st1.le) (t.region st1 s1 r1) Q hQ
/-- a call of yield -/
theorem OpsI.yield {p : Oper} (hg : p.guard = none) {c : Call} (hop : p.op = .call c) {y : Operand} (hc : c.callee = .value y) (hy : aev A y = .fn (.yield R.l) [] [])
    (hx : ∀ (G : Ghost) (w : World) (args : Array Value), R.G0.Le G → WS (R.ob o) R.Ge R.he R.we G h w → VRels G (c.args.toList.map (aev A)) args.toList → YieldS E.P R.l args w (fun e w' =>
      ∃ b o' G' h', e = .returned (.bool b) ∧ G.Le G' ∧ WS (R.ob o') R.Ge R.he R.we G' h' w' ∧ OpsI R ops o' l (putA A p.dst (.bool b)) h' K1)) : OpsI R ops o (p :: l) A h K1 := by
  intro k hl G w a hle t Q hQ
  have h0 : ops[k]? = some p := by simpa using (hl 0).symm
  have hl' : ∀ j, l[j]? = ops[k + 1 + j]? := fun j => by have := hl (j + 1); simpa [Nat.add_assoc, Nat.add_comm 1 j] using this
  have hyv := aev_rel t.r y
  rw [hy] at hyv
  simp only [VRel, VRels] at hyv
  obtain ⟨fs, cs, hyv, h1, h2⟩ := hyv
  have h1 : fs = #[] := Array.toList_inj.1 (by simpa using h1)
  have h2 : cs = #[] := Array.toList_inj.1 (by simpa using h2)
  subst h1; subst h2
  have hargs := args_map t.r c.args
  obtain ⟨fn, tmps, assign, body, hrun, hround⟩ := hx G w (c.args.map a.eval) hle t.ws hargs
  simp only [List.length_cons, List.range'_succ]
  rw [wpOpsIn_cons]
  unfold wpOpIn
  simp only [h0]
  rw [if_pos (by simp [Region.wanted, hg])]
  have hev : a.eval y = .func (.yield R.l) #[] #[] := hyv
  have hex : (execOp a.eval p).run E.P w = .ok (.round R.l fn tmps assign body) w := by
    simp only [execOp, hop, resolve, hc, hev, Deferred.ofValue, Sem.run_bind, Sem.run_pure, Result.andThen_ok, invoke]
    simpa using hrun
  refine ⟨fun _ _ => trivial, ?_⟩
  rw [show (fen none).round = none from rfl, Oper.semAt_none, hex, Oper.uponIn_round]
  refine ⟨fun hd => by simp [fen, Fence.wide] at hd, hround.mono ?_⟩
  rintro e w' ⟨b, o', G', h', rfl, hle', k', hops⟩
  exact hops (k + 1) hl' G' w' _ (hle.trans hle') ⟨k', by rw [put_defers]; exact t.bare, put_rel (t.r.mono hle') (by simp only [VRel]) p.dst⟩ Q hQ
/-! ### single operations, for iterators' proofs -/
section
variable (hS : SummB E.P E.β.nb E.S) {d : Nat} {x y : Operand} {ty t : TypeId} {ps : String} {af : Array Edge} {v xv yv : AV}
include hS
end
theorem YieldS.mono {P : Program} {l : Nat} {args : Array Value} {w : World} {Q Q' : Ending → World → Prop} (h : YieldS P l args w Q) (hQ : ∀ e w', Q e w' → Q' e w') : YieldS P l args w Q' := by
  obtain ⟨fn, tmps, assign, body, h1, h2⟩ := h
  exact ⟨fn, tmps, assign, body, h1, h2.mono hQ⟩
end
end Go.VM
end
section
/- A contract stands wherever the same package variables are known. -/
namespace Go.VM
set_option linter.unusedSectionVars false
theorem CallOk.up {i j : Inhabited Globs} (hij : ∀ g, @globs i g = @globs j g) {P : Program} {f : FuncId} {args : List AV} {h : H} {v : AV} {h' : H} (k : @CallOk i P f args h v h') : @CallOk j P f args h v h' :=
  fun G w vs s hg hr => k G w vs s (fun g n x q => hg g n x (by rw [← hij]; exact q)) hr
end Go.VM
end
section
/- An iterator's promise stands wherever the same package variables are known. -/
namespace Go.VM
set_option linter.unusedSectionVars false
theorem WS.up {i j : Inhabited Globs} (hij : ∀ g, @globs i g = @globs j g) {obs : List (Nat × Obj)} {Ge : Ghost} {he : H} {we : World} {G : Ghost} {h : H} {w : World} (k : @WS i obs Ge he we G h w) : @WS j obs Ge he we G h w := by
  obtain ⟨a, b, c, d⟩ := k
  exact @WS.mk j _ _ _ _ _ _ _ a b c (fun g n x q => d g n x (by rw [hij]; exact q))
theorem Ent.up {i j : Inhabited Globs} (hij : ∀ g, @globs i g = @globs j g) {β : Base} {Ge : Ghost} {he : H} {we : World} (k : @Ent i β Ge he we) : @Ent j β Ge he we := by
  obtain ⟨a, b, c, d⟩ := k
  exact @Ent.mk j _ _ _ _ a b (fun g n x q => c g n x (by rw [hij]; exact q)) d
theorem IterOk.up {i j : Inhabited Globs} (hij : ∀ g, @globs i g = @globs j g) {P : Program} {β : Base} {gf : Nat} {cap : List AV} {h0 h1 : H} {n : Nat} {xs : Nat → List AV} {own : Nat → H → Prop} {nx : Nat → H → H}
    (k : @IterOk i P β gf cap h0 h1 n xs own nx) : @IterOk j P β gf cap h0 h1 n xs own nx := by
  have hji : ∀ g, @globs j g = @globs i g := fun g => (hij g).symm
  refine ⟨k.1, fun Ge he we en l obs obsX T Tx G0 w0 cs kw hcs hY hT => ?_⟩
  have := k.2 Ge he we (en.up hji) l obs obsX T Tx G0 w0 cs (kw.up hji) hcs (fun k G h w args h1 h2 h3 h4 h5 h6 => (hY k G h w args h1 h2 h3 h4 (h5.up hij) h6).mono (fun e w' q => by
    rcases q with ⟨a, G', h', q1, q2, q3, q4⟩ | ⟨a, c, G', h', q1, q2, q3⟩
    · exact .inl ⟨a, G', h', q1, q2.up hji, q3, q4⟩
    · exact .inr ⟨a, c, G', h', q1, q2.up hji, q3⟩)) hT
  exact this.mono (fun e w' q => by
    obtain ⟨v, a, G', q1, q2⟩ := q
    refine ⟨v, a, G', q1, ?_⟩
    rcases q2 with ⟨h', q3, q4⟩ | ⟨c, h', q3, q4⟩
    · exact .inl ⟨h', q3.up hij, q4⟩
    · exact .inr ⟨c, h', q3.up hij, q4⟩)
end Go.VM
end
section
/- Functions that hand their whole heap on, and what is known of calls where no frame rests on more than some blocks. -/
namespace Go.VM
set_option linter.unusedSectionVars false
variable [Inhabited Globs]
section
variable {P : Program}
/-- the end of a function that hands its heap on -/
def KfinO (E : Env) (fn : Func) (r : AV × H) : Kn := fun x A h1 _ =>
  match x with
  | .exit _ => False
  | _ => match resvs E.P h1 A fn.results.toList with
    | some vs => (oneOrTup vs, h1) = r
    | none => False
def bodyO (E : Env) (fn : Func) (c : Code) (args : List AV) (h : H) (os : List Ans) (r : AV × H) : Prop :=
  wS E c (args ++ List.replicate (fn.ntmps - args.length) .undef) h os (KfinO E fn r)
structure BodyO (E : Env) (M : FuncId → Bool) (fn : Func) (args : List AV) (h : H) (r : AV × H) : Prop where
  it : ∃ os, bodyO E fn (bd fn) args h os r
theorem bodyO_s {E : Env} {M : FuncId → Bool} {fn : Func} {args : List AV} {h : H} {r : AV × H} (os : List Ans) (w : Prop) (e : bodyO E fn (bd fn) args h os r = w) (hw : w) : BodyO E M fn args h r := ⟨os, e ▸ hw⟩
theorem BodyO.call {E : Env} {M : FuncId → Bool} {f : FuncId} {fn : Func} {args : List AV} {h : H} {r : AV × H} (hb : BodyO E M fn args h r) (k : FokM E.P M f fn) (hR : Rests E M) (hβ : E.β.nm = 987654321) : CallOkB E.P E.β.nb f args h r.1 r.2 := by
  intro G w vs s hbs hgl hr
  obtain ⟨os, hw⟩ := hb.it
  have hl := hr.length
  refine callsIn_wide.1 (callsIn_of_wp_marks (F := fen none) (n := 0) k.at_ k.body trivial ?_ rfl)
  have en : Ent E.β G h w := ⟨s, .inl hβ, hgl, hbs⟩
  refine wS_ok hR (bd fn) k.simple _ _ _ _ hw none _ h w en [] _ w _ ⟨.refl _ _ _, s, fun p hp => (by cases hp), ⟨[], rfl, List.nodup_nil, fun D hD => (by cases hD), fun p hp => (by cases hp)⟩, fun l hl => (by cases hl), ?_⟩ _ (fun x A1 h1 G1 a1 w1 hk t1 _ => ?_)
  · refine ⟨?_, rfl, hgl⟩
    simp only [Array.toList_append, Array.toList_replicate, List.size_toArray]
    rw [← hl]
    exact hr.append (VRels.replicate (undef_rel _) _)
  · obtain ⟨os1, hk⟩ := hk
    have st1 := t1.st
    have s1 := t1.s
    have r1 := t1.r
    have fin : ∀ vs', resvs E.P h1 A1 fn.results.toList = some vs' → (oneOrTup vs', h1) = r → bodyPostM (fen none) 0 E.P fn (fun e w' => ∃ G' u, e = .returned u ∧ Step G h w G' r.2 w' ∧ SRel G' r.2 w' ∧ VRel G' r.1 u) .ret a1 w1 := by
      intro vs' hvs' hlv
      subst hlv
      obtain ⟨Ds, eD, hn, hB, hk⟩ := t1.marks
      show LeavesInM (fen none) 0 E.P fn a1.tmps _ a1.defers .returning w1
      rw [eD]
      refine leaves_marks Ds w1 hn hB hk st1 s1 (fun w2 st2 s2 => ?_)
      obtain ⟨u, hu1, hu2⟩ := results_ok s2 r1 hvs'
      exact ⟨u, hu1, G1, u, rfl, st2, s2, hu2⟩
    cases x
    · simp only [KfinO] at hk
      split at hk
      · rename_i vs' hv; exact fin vs' hv hk
      · exact hk.elim
    · exact hk.elim
    · simp only [KfinO] at hk
      split at hk
      · rename_i vs' hv; exact fin vs' hv hk
      · exact hk.elim
/-- what is known of a function where no frame rests on more than nb blocks -/
structure CtrB (P : Program) (nb : Nat) where
  f : FuncId
  X : Type
  args : X → List AV
  pre : X → H → Prop
  res : X → H → AV × H
  det : ∀ x y h, args x = args y → pre x h → pre y h → res x h = res y h
  ok : ∀ x h, pre x h → callable P f = true ∧ CallOkB P nb f (args x) h (res x h).1 (res x h).2
noncomputable def SofO {nb : Nat} (b : CtrB P nb) (cs : List (Ctr P)) : Summ := fun f args h =>
  open Classical in
  if f = b.f then (if e : ∃ x, b.args x = args ∧ b.pre x h then some (b.res e.choose h) else none) else Sof cs f args h
theorem sofO_ok {nb : Nat} (b : CtrB P nb) (cs : List (Ctr P)) : SummB P nb (SofO b cs) := by
  intro f args h v h' he
  simp only [SofO] at he
  split at he
  · rename_i hf
    split at he
    · rename_i e
      simp only [Option.some.injEq] at he
      obtain ⟨e1, e2⟩ := e.choose_spec
      have := b.ok e.choose h e2
      rw [he, e1, ← hf] at this
      exact this
    · cases he
  · exact (sof_ok cs).b f args h v h' he
theorem sofO_pure {nb : Nat} {b : CtrB P nb} {cs : List (Ctr P)} {M : FuncId → Bool} (hb : M b.f = true) (hc : Ctrs P M cs) : PureBut (SofO b cs) M (pureBut (Sof cs)) := fun i hi args => by
  obtain ⟨f, h1, h2⟩ := ctrs_pure hc i hi args
  have e : ¬ i = b.f := fun e => by subst e; rw [hb] at hi; cases hi
  exact ⟨f, fun h => by simp only [SofO, if_neg e]; exact h1 h, h2⟩
theorem restsO {nb : Nat} {b : CtrB P nb} {cs : List (Ctr P)} {M : FuncId → Bool} (hm : P.follows .mixedOrders = true) (hb : M b.f = true) (hc : Ctrs P M cs) {p : Pures} {nt nm n : Nat} : Rests ⟨P, SofO b cs, p, ⟨nb, nt, nm⟩, n⟩ M := ⟨hm, sofO_ok b cs, _, sofO_pure hb hc⟩
theorem acallO_hit {nb : Nat} {b : CtrB P nb} {cs : List (Ctr P)} (x : b.X) {h : H} {as cap : List AV} (ha : as ++ cap = b.args x) (hp : b.pre x h) : aCall (SofO b cs) (.fn (.func b.f) [] cap) as h = some (b.res x h) := by
  simp only [aCall, List.nil_append, SofO, if_true]
  have q : ∃ y, b.args y = as ++ cap ∧ b.pre y h := ⟨x, ha.symm, hp⟩
  rw [dif_pos q]
  rw [b.det q.choose x h (by rw [q.choose_spec.1, ha]) q.choose_spec.2 hp]
theorem acallO_skip {nb : Nat} {b : CtrB P nb} {cs : List (Ctr P)} {i : FuncId} (hi : i ≠ b.f) {h : H} {as first cap : List AV} {r : AV × H} (hr : aCall (Sof cs) (.fn (.func i) first cap) as h = some r) : aCall (SofO b cs) (.fn (.func i) first cap) as h = some r := by
  simp only [aCall, SofO, if_neg hi] at hr ⊢
  exact hr
end
end Go.VM
end
section
/- Slices of one-cell values, whatever they are: words, bools; written slices. -/
namespace Go.VM
set_option linter.unusedSectionVars false
variable [Inhabited Globs]

/-- a value that is one plain cell -/
def AV.cell1 : AV → Bool
  | .int _ _ | .bool _ => true
  | _ => false
section
variable {α : Type} {f : α → AV}
theorem enc_bnds (hf : ∀ x, (f x).cell1 = true) (l : List α) (a b c : Nat) : AV.bnds a b c (l.map f) = true := by
  rw [AV.bnds_iff]; intro x hx; simp at hx; obtain ⟨n, _, rfl⟩ := hx
  have := hf n; cases hq : f n <;> simp [hq, AV.cell1] at this <;> simp [AV.bnd]
theorem enc_frz (hf : ∀ x, (f x).cell1 = true) (l : List α) (a b : Nat) (h : H) (k : Nat) : (l.map f).map (frz a b h (k + 1)) = l.map f := by
  simp only [List.map_map]
  apply List.map_congr_left; intro x _
  have := hf x; simp only [Function.comp_apply]; cases hq : f x <;> simp [hq, AV.cell1] at this <;> simp [frz]
theorem enc_wkds (hf : ∀ x, (f x).cell1 = true) : ∀ l : List α, AV.wkds (l.map f) = l.map f
  | [] => rfl
  | x :: l => by
    have := hf x
    simp only [List.map_cons, AV.wkds, enc_wkds hf l]
    cases hq : f x <;> simp [hq, AV.cell1] at this <;> simp [AV.wkd]
theorem enc_plains (hf : ∀ x, (f x).cell1 = true) : ∀ l : List α, AV.plains (l.map f) = true
  | [] => rfl
  | x :: l => by
    have := hf x
    simp only [List.map_cons, AV.plains, enc_plains hf l]
    cases hq : f x <;> simp [hq, AV.cell1] at this <;> simp [AV.plain]
theorem enc_inj (hi : ∀ x y, f x = f y → x = y) : ∀ {l m : List α}, l.map f = m.map f → l = m
  | [], [], _ => rfl
  | [], y :: m, h => by simp at h
  | x :: l, [], h => by simp at h
  | x :: l, y :: m, h => by
    simp only [List.map_cons, List.cons.injEq] at h
    rw [hi _ _ h.1, enc_inj hi h.2]
variable {P : Program}
end
/-- words -/
abbrev u64A (b : BitVec 64) : AV := .int .u64 (b.toNat : Int)
abbrev w0 : BitVec 64 := 0#64
def u64s (l : List (BitVec 64)) : List AV := l.map u64A
def boolA (b : Bool) : AV := .bool b
abbrev b0 : Bool := false
def bools (l : List Bool) : List AV := l.map boolA
theorem u64A_c1 : ∀ x, (u64A x).cell1 = true := fun _ => rfl
theorem boolA_c1 : ∀ x, (boolA x).cell1 = true := fun _ => rfl
theorem u64A_inj (x y : BitVec 64) (h : u64A x = u64A y) : x = y := by
  simp only [u64A, AV.int.injEq, true_and] at h
  exact BitVec.eq_of_toNat_eq (by omega)
@[simp] theorem u64s_eq {l m : List (BitVec 64)} : u64s l = u64s m ↔ l = m := ⟨enc_inj u64A_inj, fun h => by rw [h]⟩
@[simp] theorem bools_eq {l m : List Bool} : bools l = bools m ↔ l = m := ⟨enc_inj (fun x y h => by simpa [boolA] using h), fun h => by rw [h]⟩
@[simp] theorem u64s_bnds (l : List (BitVec 64)) (a b c : Nat) : AV.bnds a b c (u64s l) = true := enc_bnds u64A_c1 l a b c
@[simp] theorem bools_bnds (l : List Bool) (a b c : Nat) : AV.bnds a b c (bools l) = true := enc_bnds boolA_c1 l a b c
@[simp] theorem u64s_len (l : List (BitVec 64)) : (u64s l).length = l.length := by simp [u64s]
@[simp] theorem bools_len (l : List Bool) : (bools l).length = l.length := by simp [bools]
@[simp] theorem u64s_frz (l : List (BitVec 64)) (a b : Nat) (h : H) (k : Nat) : (u64s l).map (frz a b h (k + 1)) = u64s l := enc_frz u64A_c1 l a b h k
@[simp] theorem bools_frz (l : List Bool) (a b : Nat) (h : H) (k : Nat) : (bools l).map (frz a b h (k + 1)) = bools l := enc_frz boolA_c1 l a b h k
@[simp] theorem wkds_u64s (l : List (BitVec 64)) : AV.wkds (u64s l) = u64s l := enc_wkds u64A_c1 l
@[simp] theorem plains_u64s (l : List (BitVec 64)) : AV.plains (u64s l) = true := enc_plains u64A_c1 l
section
variable {P : Program} {t : TypeId}
end
end Go.VM
end
section
/- A slice that was put together by append may be written from a point on at which nothing else looks at it. -/
namespace Go.VM
set_option linter.unusedSectionVars false
variable [Inhabited Globs]

mutual
/-- nothing of it lies in a block that is known for ever, but in slices of these tokens -/
def AV.ind (ts : List Nat) : AV → Bool
  | .agg cs | .tup cs => AV.inds ts cs
  | .cptr _ => false
  | .sl cs n r => AV.inds ts cs && (match r with | .tok t _ => decide (ts[t]? = some n) | .nil | .e => true | _ => cs.isEmpty)
  | .fn _ a b => AV.inds ts a && AV.inds ts b
  | _ => true
def AV.inds (ts : List Nat) : List AV → Bool
  | [] => true
  | a :: as => AV.ind ts a && AV.inds ts as
end
structure Ghost.But (ts : List Nat) (c : Nat) (G G' : Ghost) : Prop where
  φ : ∀ b x, G.φ b = some x → G'.φ b = some x
  fr : ∀ x o v, x ≠ c → G.fr x o = some v → G'.fr x o = some v
  tk : ∀ t n x, ts[t]? = some n → G.tk t n = some x → G'.tk t n = some x ∧ x.1 ≠ c
  mp : ∀ m x, G.mp m = some x → G'.mp m = some x
mutual
theorem VRel.ind {ts : List Nat} {c : Nat} {G G' : Ghost} (h : G.But ts c G') : ∀ (a : AV) (v : Value), a.ind ts = true → VRel G a v → VRel G' a v
  | .bool _, _, _, hv | .int _ _, _, _, hv | .str _, _, _, hv | .nilP, _, _, hv | .nilM, _, _, hv | .nilF, _, _, hv | .nilI, _, _, hv | .top, _, _, hv => by first | (simp only [VRel]; done) | (simp only [VRel] at hv ⊢; exact hv)
  | .agg cs, v, hb, hv => by
    simp only [VRel, AV.ind] at *
    obtain ⟨vs, e, hs⟩ := hv; exact ⟨vs, e, VRels.ind h cs _ hb hs⟩
  | .tup cs, v, hb, hv => by
    simp only [VRel, AV.ind] at *
    obtain ⟨vs, e, hs⟩ := hv; exact ⟨vs, e, VRels.ind h cs _ hb hs⟩
  | .ptr b o, v, hb, hv => by
    simp only [VRel] at *
    obtain ⟨c, e, hs⟩ := hv; exact ⟨c, h.φ _ _ e, hs⟩
  | .cptr cs, v, hb, hv => by simp [AV.ind] at hb
  | .sl cs n r, v, hb, hv => by
    simp only [VRel, AV.ind, Bool.and_eq_true] at *
    rcases hv with hv | ⟨c', o, cap, vs, e, h1, h2, h3, hs, hf⟩
    · exact .inl hv
    · refine .inr ⟨c', o, cap, vs, e, h1, h2, ?_, VRels.ind h cs _ hb.1 hs, ?_⟩
      · cases r with
        | tok t z =>
          have := hb.2
          simp only [decide_eq_true_eq] at this
          exact ⟨h3.1, (h.tk _ _ _ this h3.2).1⟩
        | _ => exact h3
      · intro i u hu
        cases r with
        | tok t z =>
          have := hb.2
          simp only [decide_eq_true_eq] at this
          exact h.fr _ _ _ (h.tk _ _ _ this h3.2).2 (hf i u hu)
        | nil => exact h3.elim
        | e => exact h3.elim
        | full =>
          have hl := hs.length
          have := hb.2
          simp only [List.isEmpty_iff] at this
          subst this
          cases vs with
          | nil => simp at hu
          | cons => simp at hl
        | no =>
          have hl := hs.length
          have := hb.2
          simp only [List.isEmpty_iff] at this
          subst this
          cases vs with
          | nil => simp at hu
          | cons => simp at hl
  | .msl b o n cap z, v, hb, hv => by
    simp only [VRel] at *
    obtain ⟨c, e, hs⟩ := hv; exact ⟨c, h.φ _ _ e, hs⟩
  | .map m, v, hb, hv => by
    simp only [VRel] at *
    obtain ⟨c, e, hs⟩ := hv; exact ⟨c, h.mp _ _ e, hs⟩
  | .fn f a b, v, hb, hv => by
    simp only [VRel, AV.ind, Bool.and_eq_true] at *
    obtain ⟨fs, cs, e, h1, h2⟩ := hv; exact ⟨fs, cs, e, VRels.ind h a _ hb.1 h1, VRels.ind h b _ hb.2 h2⟩
theorem VRels.ind {ts : List Nat} {c : Nat} {G G' : Ghost} (h : G.But ts c G') : ∀ (as : List AV) (vs : List Value), AV.inds ts as = true → VRels G as vs → VRels G' as vs
  | [], _, _, hv => by simpa only [VRels] using hv
  | a :: as, vs, hb, hv => by
    simp only [VRels, AV.inds, Bool.and_eq_true] at *
    obtain ⟨v, vs', e, h1, h2⟩ := hv; exact ⟨v, vs', e, VRel.ind h a v hb.1 h1, VRels.ind h as vs' hb.2 h2⟩
end
def tOk (k n : Nat) (ts : List Nat) : AV → Bool
  | .sl cs n' (.tok t z) => if t = k then decide (n' = n) else AV.ind ts (.sl cs n' (.tok t z))
  | a => a.ind ts
section
variable {Ge G : Ghost} {he h : H} {we w : World}
/-- where the slice stands -/
def TMain (vs : List AV) (h : H) (cs : List AV) (n k z : Nat) : Prop := .sl cs n (.tok k z) ∈ vs ∨ ∃ b o x, .ptr b o ∈ vs ∧ h.blk[b]? = some x ∧ .sl cs n (.tok k z) ∈ x
structure Thaw (vs : List AV) (h : H) (k n z : Nat) (cs : List AV) : Prop where
  main : TMain vs h cs n k z
  maps : h.maps = []
  tok : h.toks[k]? = some n
  cs : AV.inds (h.toks.take k) cs = true
  vs : ∀ a ∈ vs, tOk k n (h.toks.take k) a = true
  blk : ∀ x ∈ h.blk, ∀ a ∈ x, tOk k n (h.toks.take k) a = true
end
theorem inds_map {α : Type} {f : α → AV} (hf : ∀ ts x, (f x).ind ts = true) (ts : List Nat) : ∀ l : List α, AV.inds ts (l.map f) = true
  | [] => rfl
  | x :: l => by simp only [List.map_cons, AV.inds, hf ts x, inds_map hf ts l]; rfl
@[simp] theorem inds_ints (ts : List Nat) (l : List Int) : AV.inds ts (ints l) = true := inds_map (fun _ _ => rfl) ts l
end Go.VM
end
section
/- A region that makes one slice, in the empty heap: from then on the slice may be written; what was there before stays known. -/
namespace Go.VM
set_option linter.unusedSectionVars false
variable [Inhabited Globs]
section
variable {P : Program}
theorem SemC.seq {lv : Prop} {β : Base} {x y : Code} {A : List AV} {h : H} {K1 K : AX → List AV → H → Prop} (hx : SemC P lv β x A h K1) (hn : ∀ e A1 h1, K1 e A1 h1 → e = .normal) (hy : ∀ A1 h1, K1 .normal A1 h1 → SemC P lv β y A1 h1 K) : SemC P lv β (.seq x y) A h K := by
  intro ro Ge he we en obs G w a t Q hQ
  refine wpIn_seq ?_
  refine hx ro Ge he we en obs G w a t _ (fun x1 A1 h1 G1 a1 w1 hk t1 l1 => ?_)
  obtain rfl := hn _ _ _ hk
  exact hy _ _ hk ro Ge he we en obs G1 w1 a1 t1 Q (fun x A' h' G' a' w' hk2 t2 l2 => hQ x A' h' G' a' w' hk2 t2 fun q => (l1 q).trans (l2 q))
theorem SemC.read {E : Env} {M : FuncId → Bool} (hR : Rests E M) {c : Code} (hc : allSimpleM M c = true) {A : List AV} {h : H} {K : Kn} (hw : ∃ os, ∀ u : Nat → AV, Led (wS E c A h os K)) : SemC E.P (E.n = 300) E.β c A h (fun x A' h' => ∃ os', K x A' h' os') := by
  obtain ⟨os, hw⟩ := hw
  exact wS_ok hR c hc A h os K (hw fun _ => .undef).it
end
end Go.VM
end
section
/- Regions that draw their order: what reads may come behind the one effect, where that changes nothing for it; calls of known functions by value. -/
namespace Go.VM
set_option linter.unusedSectionVars false
variable [Inhabited Globs]
section
variable {P : Program} {G : Ghost} {w : World}
def callN (M : FuncId → Bool) : Op → Bool
  | .call { callee := .value (.func i), .. } => M i
  | _ => false
def quietV (M : FuncId → Bool) (o : Op) : Bool := quietKind o && !callN M o
def effV (M : FuncId → Bool) (o : Op) : Bool := !quietV M o && !allocKind o
def readsV (M : FuncId → Bool) (o : Op) : Bool := readsH o && !effV M o
structure SimpleV (M : FuncId → Bool) (ops : Array Oper) : Prop where
  edge : ∀ (j : Nat) (y : Oper), ops[j]? = some y → ∀ e ∈ y.after, Region.binds .any e = true → e.on < j
  kind : ∀ (j : Nat) (y : Oper), ops[j]? = some y → quietV M y.op = true ∨ allocKind y.op = true ∨ effV M y.op = true
  dst : ∀ (j : Nat) (y : Oper), ops[j]? = some y → readsV M y.op = true → y.dst = none → False
  slot : ∀ (i j : Nat) (x y : Oper), ops[i]? = some x → ops[j]? = some y → i < j → hazard ops x y = true → isAnc (Region.before ops) i j = true
  read : ∀ (i j : Nat) (x y : Oper), ops[i]? = some x → ops[j]? = some y → effV M y.op = true → (readsV M x.op = true ∨ allocKind x.op = true) → i < j
  alloc : ∀ (i j : Nat) (x y : Oper), ops[i]? = some x → ops[j]? = some y → effV M y.op = true → allocKind x.op = true → isAnc (Region.before ops) i j = true
  eff : ∀ (i j : Nat) (x y : Oper), ops[i]? = some x → ops[j]? = some y → effV M x.op = true → effV M y.op = true → i = j
  ssa : ∀ (i j : Nat) (x y : Oper), ops[i]? = some x → ops[j]? = some y → i ≤ j → readsV M x.op = true → ∀ d, y.dst = some d → d ∈ x.looksAt ops → False
  ssd : ∀ (i j : Nat) (x y : Oper), ops[i]? = some x → ops[j]? = some y → i < j → readsV M x.op = true → ∀ d, x.dst = some d → y.dst = some d → False
end
end Go.VM
end
section
/- Regions that draw their order: effects that stand in a chain, memory that is made, and reads anywhere, where the heaps that they may meet say the same. -/
namespace Go.VM
set_option linter.unusedSectionVars false
variable [Inhabited Globs]
section
variable {P : Program} {G : Ghost} {w : World}
def allocK9 : Op → Bool
  | .alloc _ => true
  | .makeSlice .. => true
  | _ => false
def effW (M : FuncId → Bool) (o : Op) : Bool := !quietV M o && !allocK9 o
def readsW (M : FuncId → Bool) (o : Op) : Bool := readsH o && !effW M o
structure SimpleW (M : FuncId → Bool) (ops : Array Oper) : Prop where
  edge : ∀ (j : Nat) (y : Oper), ops[j]? = some y → ∀ e ∈ y.after, Region.binds .any e = true → e.on < j
  kind : ∀ (j : Nat) (y : Oper), ops[j]? = some y → quietV M y.op = true ∨ allocK9 y.op = true ∨ effW M y.op = true
  dst : ∀ (j : Nat) (y : Oper), ops[j]? = some y → readsW M y.op = true → y.dst = none → False
  slot : ∀ (i j : Nat) (x y : Oper), ops[i]? = some x → ops[j]? = some y → i < j → hazard ops x y = true → isAnc (Region.before ops) i j = true
  alloc : ∀ (i j : Nat) (x y : Oper), ops[i]? = some x → ops[j]? = some y → effW M y.op = true → allocK9 x.op = true → isAnc (Region.before ops) i j = true ∧ i < j
  eff : ∀ (i j : Nat) (x y : Oper), ops[i]? = some x → ops[j]? = some y → effW M x.op = true → effW M y.op = true → i < j → isAnc (Region.before ops) i j = true
  ssa : ∀ (i j : Nat) (x y : Oper), ops[i]? = some x → ops[j]? = some y → i ≤ j → readsW M x.op = true → ∀ d, y.dst = some d → d ∈ x.looksAt ops → False
  ssd : ∀ (i j : Nat) (x y : Oper), ops[i]? = some x → ops[j]? = some y → i < j → readsW M x.op = true → ∀ d, x.dst = some d → y.dst = some d → False
end
end Go.VM
end
section
/- Whole trees of calls, with regions that draw their order and write. -/
namespace Go.VM
set_option linter.unusedSectionVars false
variable [Inhabited Globs]
section
variable {P : Program}
end
end Go.VM
end
section
/- Slices of pairs that append made. -/
namespace Go.VM
set_option linter.unusedSectionVars false
variable [Inhabited Globs]
def pairR : Rec Pr where
  e x := [I x.1, I x.2]
  v x := [.int .i64 x.1, .int .i64 x.2]
  z := 2
  d := pair0
  pos := by decide
  len _ := rfl
  vlen _ := rfl
  one _ := rfl
  bnds _ _ _ _ := rfl
  plain _ := rfl
  wk _ := rfl
  frz _ _ _ _ _ := rfl
  rel G x := by simp [VRels, VRel]
theorem pairR_cells : ∀ l : List Pr, pairR.cells l = pairsA l
  | [] => rfl
  | p :: l => by
    rw [Rec.cells_cons, pairR_cells l]; rfl
theorem app_pr {P : Program} {t : TypeId} (hT : Rec.appT P t 2 = true) {l : List Pr} {x y : Int} {bs : List (List AV)} (hn : l.length ≤ 1000000) :
    aAppend P t t (.sl (pairsA l) l.length (rmz 2 l)) (.sl [I x, I y] 1 .full) ⟨bs, tkz l, []⟩ = some (.sl (pairsA (l ++ [(x, y)])) (l ++ [(x, y)]).length (rmz 2 (l ++ [(x, y)])), ⟨bs, tkz (l ++ [(x, y)]), []⟩) := by
  have := pairR.app (P := P) (t := t) hT (l := l) (x := (x, y)) (bs := bs) hn
  rw [pairR_cells, pairR_cells] at this
  exact this
end Go.VM
end
