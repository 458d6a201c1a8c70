/- Own texts on reading the model, joined: VmRo, VmRg, VmRi, VmUp, VmUi, VmBo, VmEn, VmTh, VmTw, VmM7, VmM9, VmDw, VmGl. -/
import Derived.Test.YtdnidpojcocklaaDoorVm7
import Derived.ProofKit
import Derived.LaidLaws
import Derived.Lay
import Derived.OpenShut
set_option linter.unusedSimpArgs false
set_option linter.unusedVariables false
set_option linter.unnecessarySimpa false
section
/- Of what an open body leaves, some blocks are kept, at new places, and of each its first cells. -/
namespace Go.VM
set_option linter.unusedSectionVars false
variable [Inhabited Globs]
section
variable {P : Program}
structure KeepOk (σ : Nat → Nat) (n0 : Nat) (B B2 : List (List AV)) : Prop where
  n : n0 ≤ B2.length
  id : ∀ i, i < n0 → σ i = i
  inj : ∀ i j, i < B2.length → j < B2.length → σ i = σ j → i = j ∨ B2[i]? = some [] ∨ B2[j]? = some []
  cells : ∀ i cs2, B2[i]? = some cs2 → ∃ cs1, B[σ i]? = some cs1 ∧ cs2.length ≤ cs1.length ∧ RVs σ B2.length cs2 (cs1.take cs2.length)
theorem VRels.takeN {G : Ghost} : ∀ {xs : List AV} {vs : List Value} (m : Nat), VRels G xs vs → VRels G (xs.take m) (vs.take m)
  | [], vs, m, h => by
    simp only [VRels] at h
    subst h; simp [VRels]
  | x :: xs, vs, 0, h => by simp [VRels]
  | x :: xs, vs, m + 1, h => by
    simp only [VRels] at h
    obtain ⟨v1, vs1, rfl, h1, h2⟩ := h
    simp only [List.take_succ_cons, VRels]
    exact ⟨v1, vs1.take m, rfl, h1, VRels.takeN m h2⟩
theorem KeepOk.dead {σ : Nat → Nat} {n0 : Nat} {B B2 : List (List AV)} (k : KeepOk σ n0 B B2) {i : Nat} (hi : i < B2.length) (h : B[σ i]? = some []) : B2[i]? = some [] := by
  obtain ⟨cs1, h1, h2, _⟩ := k.cells i B2[i] (by simp [hi])
  rw [h] at h1; cases h1
  have : B2[i] = [] := List.length_eq_zero_iff.1 (by simpa using h2)
  rw [List.getElem?_eq_getElem hi, this]
theorem CallOkB.keep {f : FuncId} {args : List AV} {bs B B2 : List (List AV)} {v V : AV} {σ : Nat → Nat} (k : KeepOk σ bs.length B B2) (hv : RV σ B2.length V v)
    (hc : CallOkB P 0 f args ⟨bs, [], []⟩ v ⟨B, [], []⟩) : CallOkB P 0 f args ⟨bs, [], []⟩ V ⟨B2, [], []⟩ := by
  intro G w vs s hb hgl hr
  refine Calls.mono (hc G w vs s hb hgl hr) ?_
  rintro e w' ⟨G1, u, rfl, st, s1, hvu⟩
  let G2 : Ghost := { G1 with φ := fun i => if i < B2.length then G1.φ (σ i) else none }
  have hφ : ∀ {i c}, G2.φ i = some c → i < B2.length ∧ G1.φ (σ i) = some c := fun {i c} h => by
    have h : (if i < B2.length then G1.φ (σ i) else none) = some c := h
    split at h
    · rename_i q; exact ⟨q, h⟩
    · cases h
  have hφ' : ∀ {i}, i < B2.length → G2.φ i = G1.φ (σ i) := fun {i} h => by show (if i < B2.length then G1.φ (σ i) else none) = _; rw [if_pos h]
  have ag : Agree σ B2.length G2 G1 := ⟨fun i hi => hφ' hi, rfl⟩
  have hown : ∀ c, Own G2 ⟨B2, [], []⟩ c → Own G1 ⟨B, [], []⟩ c := fun c ho => by
    rcases ho with ⟨b, sb, hb, hq⟩ | ho
    · obtain ⟨hi, h1⟩ := hφ hb
      exact .inl ⟨σ b, sb, h1, fun q => hq (k.dead hi q)⟩
    · exact .inr ho
  refine ⟨G2, u, rfl, ?_, ?_, (hv _ _ _ ag).2 hvu⟩
  · refine ⟨⟨fun b c q => ?_, st.le.fr, st.le.tk, st.le.mp⟩, st.os, st.tape, st.output, st.size, st.keep, fun c ho => st.own c (hown c ho), st.bases, ⟨fun b c q hlt => ?_, k.n⟩, st.frnew⟩
    · have hlt : b < bs.length := s.dom.φ b c q
      have := k.n
      rw [hφ' (by omega), k.id b hlt]
      exact st.le.φ b c q
    · obtain ⟨_, h1⟩ := hφ q
      have hlt : b < bs.length := hlt
      rw [k.id b hlt] at h1
      exact st.pend.1 b c h1 hlt
  · refine ⟨⟨fun b c q => (hφ q).1, s1.dom.tk, s1.dom.mp⟩, ?_, fun t n ht => by simp at ht, fun m c hm => ?_, s1.fr, ?_, ?_, fun _ _ _ _ _ _ _ ht => by simp at ht, fun _ _ _ _ _ ht => by simp at ht, fun _ _ _ _ _ _ _ _ _ ht => by simp at ht, s1.injmp, fun β hβ => ?_⟩
    · intro i c hq
      obtain ⟨hi, h1⟩ := hφ hq
      obtain ⟨cs, arr, e, q1, q2, q2', q3⟩ := s1.blk _ c h1
      obtain ⟨cs1, g1, g2, g3⟩ := k.cells i B2[i] (by simp [hi])
      have q1 : B[σ i]? = some cs := q1
      rw [g1] at q1; cases q1
      refine ⟨B2[i], arr, e, by simp [hi], q2, q2', (g3 _ _ _ ag).2 ?_⟩
      have := VRels.takeN B2[i].length q3
      rwa [List.take_take, Nat.min_eq_left g2] at this
    · obtain ⟨M, es, ck, q1, _⟩ := s1.map m c hm
      simp at q1
    · intro b b' c c' h1 h2 he
      obtain ⟨hi, h1⟩ := hφ h1
      obtain ⟨hi', h2⟩ := hφ h2
      rcases s1.injφ _ _ c c' h1 h2 he with q | q | q
      · exact k.inj b b' hi hi' q
      · exact .inr (.inl (k.dead hi q))
      · exact .inr (.inr (k.dead hi' q))
    · intro b c o hq hl
      obtain ⟨hi, h1⟩ := hφ hq
      exact s1.φfr _ c o h1 (fun q => hl (k.dead hi q))
    · have hβ' : β ∈ G.bases := by rw [← st.bases]; exact hβ
      have h0 := hb β hβ'
      obtain ⟨h1, h2, h3, _⟩ := s1.bases β hβ
      exact ⟨by omega, h2, h3, fun b c cs hq hlt hcs => by omega⟩
end
end Go.VM
end
section
/- Ranges over functions: what an iterator promises, and the rule of the range. -/
namespace Go.VM
set_option linter.unusedSectionVars false
variable [Inhabited Globs]
section
variable {P : Program}

/-- a world that an abstract heap tells, and blocks that are known -/
structure WS (obs : List (Nat × Obj)) (Ge : Ghost) (he : H) (we : World) (G : Ghost) (h : H) (w : World) : Prop where
  st : Step Ge he we G h w
  s : SRel G h w
  keep : KeepO obs G h w
  gl : GlobOk G
section
variable {obs : List (Nat × Obj)} {Ge G : Ghost} {he h : H} {we w : World}
theorem Stt.ws {ro : Option Nat} {A : List AV} {a : Act} (t : Stt ro obs Ge he we G A h w a) : WS obs Ge he we G h w := ⟨t.st, t.s, t.keep, t.r.gl⟩
theorem WS.put {l : Nat} {r r' : Loop} (k : WS ((l, .loop r) :: obs) Ge he we G h w) (hl : ∀ p ∈ obs, p.1 ≠ l) (hB : we.heap.size ≤ l) : WS ((l, .loop r') :: obs) Ge he we G h (w.putObj l (.loop r')) := by
  obtain ⟨k1, k2⟩ := k.keep (l, .loop r) (by simp)
  refine ⟨k.st.put _ hB, k.s.put _ k2 (cell_loop k1) (fun _ _ _ q => by rw [k1] at q; cases q), fun p hp => ?_, k.gl⟩
  rcases List.mem_cons.1 hp with rfl | hp
  · exact ⟨World.putObj_heap_same (Array.getElem?_eq_some_iff.1 k1).1, k2⟩
  · obtain ⟨q1, q2⟩ := k.keep p (List.mem_cons_of_mem _ hp)
    exact ⟨(World.putObj_heap_other (hl p hp)).trans q1, q2⟩
theorem WS.alloc (k : WS obs Ge he we G h w) (o : Obj) : WS ((w.heap.size, o) :: obs) Ge he we G h (w.alloc o) := by
  refine ⟨k.st.trans (.garbage _ _ _ _), k.s.garbage o, fun p hp => ?_, k.gl⟩
  rcases List.mem_cons.1 hp with rfl | hp
  · exact ⟨World.alloc_heap_new w o, fun ho => Nat.lt_irrefl _ (k.s.own_lt ho)⟩
  · obtain ⟨q1, q2⟩ := k.keep p hp
    exact ⟨by rw [heap_alloc_old w o _ (Array.getElem?_eq_some_iff.1 q1).1]; exact q1, q2⟩
theorem WS.lt (k : WS obs Ge he we G h w) : ∀ p ∈ obs, p.1 < w.heap.size := fun p hp => (Array.getElem?_eq_some_iff.1 (k.keep p hp).1).1
theorem WS.sub {obs' : List (Nat × Obj)} (k : WS obs Ge he we G h w) (hs : ∀ p ∈ obs', p ∈ obs) : WS obs' Ge he we G h w := ⟨k.st, k.s, fun p hp => k.keep p (hs p hp), k.gl⟩
end

/-- a call of yield asks for a round -/
def YieldS (P : Program) (l : Nat) (args : Array Value) (w : World) (R : Ending → World → Prop) : Prop :=
  ∃ fn tmps assign body, (Instr.yield l args).run P w = .ok (.round l fn tmps assign body) w ∧ RoundIn (fen none) 0 P l fn tmps assign body w R
/-- what an iterator promises: from heap h0 its n rounds come with xs 0, xs 1, .., the first one at heap h1; between its rounds it needs of the heap what own says, and does to it what nx says; when a round says no more it ends at once -/
def IterOk (P : Program) (β : Base) (gf : Nat) (cap : List AV) (h0 h1 : H) (n : Nat) (xs : Nat → List AV) (own : Nat → H → Prop) (nx : Nat → H → H) : Prop :=
  callable P gf = true ∧ ∀ (Ge : Ghost) (he : H) (we : World), Ent β Ge he we → ∀ (l : Nat) (obs : List (Nat × Obj)) (obsX : Code → List (Nat × Obj)) (T : Nat → H → Prop) (Tx : Code → H → Prop) (G0 : Ghost) (w0 : World) (cs : Array Value),
    WS obs Ge he we G0 h0 w0 → VRels G0 cap cs.toList →
    (∀ k G h w (args : Array Value), k < n → own k h → T k h → G0.Le G → WS obs Ge he we G h w → VRels G (xs k) args.toList → YieldS P l args w (fun e w' =>
        (e = .returned (.bool true) ∧ ∃ G' h', G.Le G' ∧ WS obs Ge he we G' h' w' ∧ own k h' ∧ T (k + 1) (nx k h')) ∨
        (e = .returned (.bool false) ∧ ∃ c G' h', G.Le G' ∧ WS (obsX c) Ge he we G' h' w' ∧ Tx c h'))) →
    T 0 h1 →
      CallsIn (fen none) 0 P gf (#[.func (.yield l) #[] #[]] ++ cs) w0 (fun e w' => ∃ v, e = .returned v ∧ ∃ G', G0.Le G' ∧ ((∃ h', WS obs Ge he we G' h' w' ∧ T n h') ∨ (∃ c h', WS (obsX c) Ge he we G' h' w' ∧ Tx c h')))

/-! ### a range of a function's code, by its number -/
end
end Go.VM
end
section
/- Iterators: what their code comes to, with calls of yield. -/
namespace Go.VM
set_option linter.unusedSectionVars false
variable [Inhabited Globs]
section
/-- where an iterator runs -/
structure Rx (E : Env) where
  Ge : Ghost
  he : H
  we : World
  en : Ent E.β Ge he we
  /-- what is known of blocks: nothing has jumped, or a jump pends -/
  ob : Option Code → List (Nat × Obj)
  l : Nat
  G0 : Ghost

variable {E : Env} {M : FuncId → Bool} (R : Rx E)
/-- where an iterator is: it defers nothing -/
structure SttI (R : Rx E) (o : Option Code) (G : Ghost) (A : List AV) (h : H) (w : World) (a : Act) : Prop where
  ws : WS (R.ob o) R.Ge R.he R.we G h w
  bare : a.defers = []
  r : ARel G A a
/-- an iterator's code from these slots and this heap -/
def SemI (o : Option Code) (c : Code) (A : List AV) (h : H) (K : Option Code → AX → List AV → H → Prop) : Prop :=
  ∀ (G : Ghost) (w : World) (a : Act), R.G0.Le G → SttI R o G A h w a → ∀ (Q : Exit → Act → World → Prop),
    (∀ o' x A' h' G' a' w', K o' x A' h' → R.G0.Le G' → SttI R o' G' A' h' w' a' → Q x.toExit a' w') → c.wpIn (fen none) 0 E.P Q a w
variable {R} {o : Option Code} {G G' : Ghost} {w w' : World} {a a' : Act} {A A' : List AV} {h h' : H} {K : Option Code → AX → List AV → H → Prop}

theorem SttI.region (t : SttI R o G A h w a) (st : Step G h w G' h' w') (s : SRel G' h' w') (r : ARel G' A' a') : SttI R o G' A' h' w' a' :=
  ⟨⟨t.ws.st.trans st, s, t.ws.keep.step st, r.gl⟩, r.defers, r⟩
theorem SemI.mono {c : Code} {K' : Option Code → AX → List AV → H → Prop} (hc : SemI R o c A h K') (hK : ∀ o' x A' h', K' o' x A' h' → K o' x A' h') : SemI R o c A h K :=
  fun G w a hle t Q hQ => hc G w a hle t Q fun o' x A' h' G' a' w' hk => hQ o' x A' h' G' a' w' (hK _ _ _ _ hk)
theorem SemI.seq {x y : Code} (hx : SemI R o x A h (fun o' e A' h' => match e with | .normal => SemI R o' y A' h' K | e => K o' e A' h')) : SemI R o (.seq x y) A h K := by
  intro G w a hle t Q hQ
  refine wpIn_seq (hx G w a hle t _ (fun o' e A' h' G' a' w' hk hle' t' => ?_))
  cases e with
  | normal => exact hk G' w' a' hle' t' Q hQ
  | exit id => exact hQ o' (.exit id) A' h' G' a' w' hk hle' t'
  | ret => exact hQ o' .ret A' h' G' a' w' hk hle' t'
theorem SemI.cond {c : Operand} {x y : Code} {b : Bool} (hb : aev A c = .bool b) (hx : SemI R o (if b then x else y) A h K) : SemI R o (.cond c x y) A h K := by
  intro G w a hle t Q hQ
  have hc := aev_rel t.r c
  rw [hb] at hc; simp only [VRel] at hc
  cases b
  · exact wpIn_cond_false hc (hx G w a hle t Q hQ)
  · exact wpIn_cond_true hc (hx G w a hle t Q hQ)
theorem SemI.block {id : Nat} {c : Code} (hx : SemI R o c A h (fun o' e A' h' => match e with | .exit i => if i = id then K o' .normal A' h' else K o' (.exit i) A' h' | e => K o' e A' h')) : SemI R o (.block id c) A h K := by
  intro G w a hle t Q hQ
  refine wpIn_block (hx G w a hle t _ (fun o' e A' h' G' a' w' hk hle' t' => ?_))
  cases e with
  | normal => exact hQ o' .normal A' h' G' a' w' hk hle' t'
  | ret => exact hQ o' .ret A' h' G' a' w' hk hle' t'
  | exit i =>
    simp only at hk
    split at hk
    · rename_i hi
      simp only [AX.toExit, Exit.inBlock, hi, if_true]
      exact hQ o' .normal A' h' G' a' w' hk hle' t'
    · rename_i hi
      simp only [AX.toExit, Exit.inBlock, hi, if_false]
      exact hQ o' (.exit i) A' h' G' a' w' hk hle' t'
theorem SemI.skip (hk : K o .normal A h) : SemI R o .skip A h K := fun G w a hle t Q hQ => wpIn_skip (hQ o .normal A h G a w hk hle t)
theorem SemI.ret (hk : K o .ret A h) : SemI R o .ret A h K := fun G w a hle t Q hQ => wpIn_ret (hQ o .ret A h G a w hk hle t)
theorem SemI.exit {id : Nat} (hk : K o (.exit id) A h) : SemI R o (.exit id) A h K := fun G w a hle t Q hQ => wpIn_exit (hQ o (.exit id) A h G a w hk hle t)
theorem SemI.scope {c : Code} (hx : SemI R o c A h K) : SemI R o (.scope c) A h K := by
  intro G w a hle t Q hQ
  refine wpIn_scope (hx G w a hle t _ (fun o' e A' h' G' a' w' hk hle' t' => ?_))
  have hq := hQ o' e A' h' G' a' w' hk hle' t'
  cases e <;> exact hq
/-- a loop by an invariant with a measure -/
theorem SemI.loop {c : Code} (I : Nat → Option Code → List AV → H → Prop)
    (hs : ∀ d o A h, I d o A h → SemI R o c A h (fun o' e A' h' => match e with | .normal => ∃ d', d' < d ∧ I d' o' A' h' | e => K o' e A' h')) {d : Nat} (h0 : I d o A h) : SemI R o (.loop c) A h K := by
  have go : ∀ (f d : Nat), d < f → ∀ (o : Option Code) (A : List AV) (h : H), I d o A h → ∀ (G : Ghost) (w : World) (a : Act), R.G0.Le G → SttI R o G A h w a → ∀ (Q : Exit → Act → World → Prop),
      (∀ o' x A' h' G' a' w', K o' x A' h' → R.G0.Le G' → SttI R o' G' A' h' w' a' → Q x.toExit a' w') → Code.roundsIn (fen none) 0 E.P c Q f a w := by
    intro f
    induction f with
    | zero => intro d hd; omega
    | succ f ih =>
      intro d hd o A h hI G w a hle t Q hQ
      rw [roundsIn_succ]
      refine hs d o A h hI G w a hle t _ (fun o' e A' h' G' a' w' hk hle' t' => ?_)
      cases e with
      | normal =>
        obtain ⟨d', hd', hI'⟩ := hk
        exact ih d' (by omega) o' A' h' hI' G' w' a' hle' t' Q hQ
      | exit id => exact hQ o' (.exit id) A' h' G' a' w' hk hle' t'
      | ret => exact hQ o' .ret A' h' G' a' w' hk hle' t'
  intro G w a hle t Q hQ
  exact wpIn_loop_rounds (d + 1) (go (d + 1) d (Nat.lt_succ_self d) o A h h0 G w a hle t Q hQ)

/-- a region's operations from the k-th on -/
def OpsI (R : Rx E) (ops : Array Oper) (o : Option Code) (l : List Oper) (A : List AV) (h : H) (K : Option Code → List AV → H → Prop) : Prop :=
  ∀ (k : Nat), (∀ j, l[j]? = ops[k + j]?) → ∀ (G : Ghost) (w : World) (a : Act), R.G0.Le G → SttI R o G A h w a → ∀ (Q : Exit → Act → World → Prop),
    (∀ o' A' h' G' a' w', K o' A' h' → R.G0.Le G' → SttI R o' G' A' h' w' a' → Q .normal a' w') → wpOpsIn (fen none) 0 E.P ops Q (List.range' k l.length) a w
theorem SemI.region {id : Nat} {ops : Array Oper} (hx : OpsI R ops o ops.toList A h (fun o' A' h' => K o' .normal A' h')) : SemI R o (.region id ops false) A h K := by
  intro G w a hle t Q hQ
  refine wpIn_region ?_
  have := hx 0 (by simp) G w a hle t Q (fun o' A' h' G' a' w' hk => hQ o' .normal A' h' G' a' w' hk)
  rw [← List.range_eq_range', Array.length_toList] at this
  exact this
variable {ops : Array Oper} {l : List Oper} {K1 : Option Code → List AV → H → Prop}
theorem OpsI.nil (hk : K1 o A h) : OpsI R ops o [] A h K1 := fun k _ G w a hle t Q hQ => hQ o A h G a w hk hle t
theorem OpsI.op (hS : SummB E.P E.β.nb E.S) {p : Oper} (hg : p.guard = none) {v : AV} {h' : H} (he : aop E.P E.S E.β p A h = some (v, h')) (hx : OpsI R ops o l (putA A p.dst v) h' K1) : OpsI R ops o (p :: l) A h K1 := by
  intro k hl G w a hle t Q hQ
  have h0 : ops[k]? = some p := by simpa using (hl 0).symm
  have hl' : ∀ j, l[j]? = ops[k + 1 + j]? := fun j => by have := hl (j + 1); simpa [Nat.add_assoc, Nat.add_comm 1 j] using this
  have hβ' : ∀ γ ∈ G.bases, γ.1 ≤ E.β.nb := by rw [t.ws.st.bases]; exact R.en.bases
  let K0 : Act → World → Prop := fun a' w' => ∃ G', Step G h w G' h' w' ∧ SRel G' h' w' ∧ ARel G' (putA A p.dst v) a'
  have hw : p.wp E.P a w K0 (fun _ _ _ => False) := by
    refine aop_ok hS t.ws.s hβ' t.r he (fun G1 w1 u st1 s1 hv => ?_)
    exact ⟨G1, st1, s1, put_rel (t.r.mono st1.le) hv p.dst⟩
  simp only [List.length_cons, List.range'_succ]
  rw [wpOpsIn_cons]
  unfold wpOpIn
  simp only [h0]
  rw [if_pos (by simp [Region.wanted, hg])]
  have e0 : { a with defers := [] } = a := by rw [← t.bare]
  have := oper_in (a := a) (ds := []) (n := 0) (ro := none) (K := wpOpsIn (fen none) 0 E.P ops Q (List.range' (k + 1) l.length)) (Q := Q) t.bare (fun a' w' hk => by obtain ⟨_, _, _, r⟩ := hk; exact r.defers) (fun a' w' hk => ?_) (fun _ _ _ hq => hq.elim) hw
  · rwa [e0] at this
  · obtain ⟨G1, st1, s1, r1⟩ := hk
    have e1 : { a' with defers := [] } = a' := by rw [← r1.defers]
    rw [e1]
    exact hx (k + 1) hl' G1 w' _ (hle.trans st1.le) (t.region st1 s1 r1) Q hQ
/-- a call of yield -/
theorem OpsI.yield {p : Oper} (hg : p.guard = none) {c : Call} (hop : p.op = .call c) {y : Operand} (hc : c.callee = .value y) (hy : aev A y = .fn (.yield R.l) [] [])
    (hx : ∀ (G : Ghost) (w : World) (args : Array Value), R.G0.Le G → WS (R.ob o) R.Ge R.he R.we G h w → VRels G (c.args.toList.map (aev A)) args.toList → YieldS E.P R.l args w (fun e w' =>
      ∃ b o' G' h', e = .returned (.bool b) ∧ G.Le G' ∧ WS (R.ob o') R.Ge R.he R.we G' h' w' ∧ OpsI R ops o' l (putA A p.dst (.bool b)) h' K1)) : OpsI R ops o (p :: l) A h K1 := by
  intro k hl G w a hle t Q hQ
  have h0 : ops[k]? = some p := by simpa using (hl 0).symm
  have hl' : ∀ j, l[j]? = ops[k + 1 + j]? := fun j => by have := hl (j + 1); simpa [Nat.add_assoc, Nat.add_comm 1 j] using this
  have hyv := aev_rel t.r y
  rw [hy] at hyv
  simp only [VRel, VRels] at hyv
  obtain ⟨fs, cs, hyv, h1, h2⟩ := hyv
  have h1 : fs = #[] := Array.toList_inj.1 (by simpa using h1)
  have h2 : cs = #[] := Array.toList_inj.1 (by simpa using h2)
  subst h1; subst h2
  have hargs := args_map t.r c.args
  obtain ⟨fn, tmps, assign, body, hrun, hround⟩ := hx G w (c.args.map a.eval) hle t.ws hargs
  simp only [List.length_cons, List.range'_succ]
  rw [wpOpsIn_cons]
  unfold wpOpIn
  simp only [h0]
  rw [if_pos (by simp [Region.wanted, hg])]
  have hev : a.eval y = .func (.yield R.l) #[] #[] := hyv
  have hex : (execOp a.eval p).run E.P w = .ok (.round R.l fn tmps assign body) w := by
    simp only [execOp, hop, resolve, hc, hev, Deferred.ofValue, Sem.run_bind, Sem.run_pure, Result.andThen_ok, invoke]
    simpa using hrun
  refine ⟨fun _ _ => trivial, ?_⟩
  rw [show (fen none).round = none from rfl, Oper.semAt_none, hex, Oper.uponIn_round]
  refine ⟨fun hd => by simp [fen, Fence.wide] at hd, hround.mono ?_⟩
  rintro e w' ⟨b, o', G', h', rfl, hle', k', hops⟩
  exact hops (k + 1) hl' G' w' _ (hle.trans hle') ⟨k', by rw [put_defers]; exact t.bare, put_rel (t.r.mono hle') (by simp only [VRel]) p.dst⟩ Q hQ
/-! ### single operations, for iterators' proofs -/
section
variable (hS : SummB E.P E.β.nb E.S) {d : Nat} {x y : Operand} {ty t : TypeId} {ps : String} {af : Array Edge} {v xv yv : AV}
include hS
end
theorem YieldS.mono {P : Program} {l : Nat} {args : Array Value} {w : World} {Q Q' : Ending → World → Prop} (h : YieldS P l args w Q) (hQ : ∀ e w', Q e w' → Q' e w') : YieldS P l args w Q' := by
  obtain ⟨fn, tmps, assign, body, h1, h2⟩ := h
  exact ⟨fn, tmps, assign, body, h1, h2.mono hQ⟩
end
end Go.VM
end
section
/- A contract stands wherever the same package variables are known. -/
namespace Go.VM
set_option linter.unusedSectionVars false
theorem CallOk.up {i j : Inhabited Globs} (hij : ∀ g, @globs i g = @globs j g) {P : Program} {f : FuncId} {args : List AV} {h : H} {v : AV} {h' : H} (k : @CallOk i P f args h v h') : @CallOk j P f args h v h' :=
  fun G w vs s hg hr => k G w vs s (fun g n x q => hg g n x (by rw [← hij]; exact q)) hr
end Go.VM
end
section
/- An iterator's promise stands wherever the same package variables are known. -/
namespace Go.VM
set_option linter.unusedSectionVars false
theorem WS.up {i j : Inhabited Globs} (hij : ∀ g, @globs i g = @globs j g) {obs : List (Nat × Obj)} {Ge : Ghost} {he : H} {we : World} {G : Ghost} {h : H} {w : World} (k : @WS i obs Ge he we G h w) : @WS j obs Ge he we G h w := by
  obtain ⟨a, b, c, d⟩ := k
  exact @WS.mk j _ _ _ _ _ _ _ a b c (fun g n x q => d g n x (by rw [hij]; exact q))
theorem Ent.up {i j : Inhabited Globs} (hij : ∀ g, @globs i g = @globs j g) {β : Base} {Ge : Ghost} {he : H} {we : World} (k : @Ent i β Ge he we) : @Ent j β Ge he we := by
  obtain ⟨a, b, c, d⟩ := k
  exact @Ent.mk j _ _ _ _ a b (fun g n x q => c g n x (by rw [hij]; exact q)) d
theorem IterOk.up {i j : Inhabited Globs} (hij : ∀ g, @globs i g = @globs j g) {P : Program} {β : Base} {gf : Nat} {cap : List AV} {h0 h1 : H} {n : Nat} {xs : Nat → List AV} {own : Nat → H → Prop} {nx : Nat → H → H}
    (k : @IterOk i P β gf cap h0 h1 n xs own nx) : @IterOk j P β gf cap h0 h1 n xs own nx := by
  have hji : ∀ g, @globs j g = @globs i g := fun g => (hij g).symm
  refine ⟨k.1, fun Ge he we en l obs obsX T Tx G0 w0 cs kw hcs hY hT => ?_⟩
  have := k.2 Ge he we (en.up hji) l obs obsX T Tx G0 w0 cs (kw.up hji) hcs (fun k G h w args h1 h2 h3 h4 h5 h6 => (hY k G h w args h1 h2 h3 h4 (h5.up hij) h6).mono (fun e w' q => by
    rcases q with ⟨a, G', h', q1, q2, q3, q4⟩ | ⟨a, c, G', h', q1, q2, q3⟩
    · exact .inl ⟨a, G', h', q1, q2.up hji, q3, q4⟩
    · exact .inr ⟨a, c, G', h', q1, q2.up hji, q3⟩)) hT
  exact this.mono (fun e w' q => by
    obtain ⟨v, a, G', q1, q2⟩ := q
    refine ⟨v, a, G', q1, ?_⟩
    rcases q2 with ⟨h', q3, q4⟩ | ⟨c, h', q3, q4⟩
    · exact .inl ⟨h', q3.up hij, q4⟩
    · exact .inr ⟨c, h', q3.up hij, q4⟩)
end Go.VM
end
section
/- Functions that hand their whole heap on, and what is known of calls where no frame rests on more than some blocks. -/
namespace Go.VM
set_option linter.unusedSectionVars false
variable [Inhabited Globs]
section
variable {P : Program}
/-- the end of a function that hands its heap on -/
def KfinO (E : Env) (fn : Func) (r : AV × H) : Kn := fun x A h1 _ =>
  match x with
  | .exit _ => False
  | _ => match resvs E.P h1 A fn.results.toList with
    | some vs => (oneOrTup vs, h1) = r
    | none => False
def bodyO (E : Env) (fn : Func) (c : Code) (args : List AV) (h : H) (os : List Ans) (r : AV × H) : Prop :=
  wS E c (args ++ List.replicate (fn.ntmps - args.length) .undef) h os (KfinO E fn r)
structure BodyO (E : Env) (M : FuncId → Bool) (fn : Func) (args : List AV) (h : H) (r : AV × H) : Prop where
  it : ∃ os, bodyO E fn (bd fn) args h os r
theorem bodyO_s {E : Env} {M : FuncId → Bool} {fn : Func} {args : List AV} {h : H} {r : AV × H} (os : List Ans) (w : Prop) (e : bodyO E fn (bd fn) args h os r = w) (hw : w) : BodyO E M fn args h r := ⟨os, e ▸ hw⟩
theorem BodyO.call {E : Env} {M : FuncId → Bool} {f : FuncId} {fn : Func} {args : List AV} {h : H} {r : AV × H} (hb : BodyO E M fn args h r) (k : FokM E.P M f fn) (hR : Rests E M) (hβ : E.β.nm = 987654321) : CallOkB E.P E.β.nb f args h r.1 r.2 := by
  intro G w vs s hbs hgl hr
  obtain ⟨os, hw⟩ := hb.it
  have hl := hr.length
  refine callsIn_wide.1 (callsIn_of_wp_marks (F := fen none) (n := 0) k.at_ k.body trivial ?_ rfl)
  have en : Ent E.β G h w := ⟨s, .inl hβ, hgl, hbs⟩
  refine wS_ok hR (bd fn) k.simple _ _ _ _ hw none _ h w en [] _ w _ ⟨.refl _ _ _, s, fun p hp => (by cases hp), ⟨[], rfl, List.nodup_nil, fun D hD => (by cases hD), fun p hp => (by cases hp)⟩, fun l hl => (by cases hl), ?_⟩ _ (fun x A1 h1 G1 a1 w1 hk t1 _ => ?_)
  · refine ⟨?_, rfl, hgl⟩
    simp only [Array.toList_append, Array.toList_replicate, List.size_toArray]
    rw [← hl]
    exact hr.append (VRels.replicate (undef_rel _) _)
  · obtain ⟨os1, hk⟩ := hk
    have st1 := t1.st
    have s1 := t1.s
    have r1 := t1.r
    have fin : ∀ vs', resvs E.P h1 A1 fn.results.toList = some vs' → (oneOrTup vs', h1) = r → bodyPostM (fen none) 0 E.P fn (fun e w' => ∃ G' u, e = .returned u ∧ Step G h w G' r.2 w' ∧ SRel G' r.2 w' ∧ VRel G' r.1 u) .ret a1 w1 := by
      intro vs' hvs' hlv
      subst hlv
      obtain ⟨Ds, eD, hn, hB, hk⟩ := t1.marks
      show LeavesInM (fen none) 0 E.P fn a1.tmps _ a1.defers .returning w1
      rw [eD]
      refine leaves_marks Ds w1 hn hB hk st1 s1 (fun w2 st2 s2 => ?_)
      obtain ⟨u, hu1, hu2⟩ := results_ok s2 r1 hvs'
      exact ⟨u, hu1, G1, u, rfl, st2, s2, hu2⟩
    cases x
    · simp only [KfinO] at hk
      split at hk
      · rename_i vs' hv; exact fin vs' hv hk
      · exact hk.elim
    · exact hk.elim
    · simp only [KfinO] at hk
      split at hk
      · rename_i vs' hv; exact fin vs' hv hk
      · exact hk.elim
/-- what is known of a function where no frame rests on more than nb blocks -/
structure CtrB (P : Program) (nb : Nat) where
  f : FuncId
  X : Type
  args : X → List AV
  pre : X → H → Prop
  res : X → H → AV × H
  det : ∀ x y h, args x = args y → pre x h → pre y h → res x h = res y h
  ok : ∀ x h, pre x h → callable P f = true ∧ CallOkB P nb f (args x) h (res x h).1 (res x h).2
noncomputable def SofO {nb : Nat} (b : CtrB P nb) (cs : List (Ctr P)) : Summ := fun f args h =>
  open Classical in
  if f = b.f then (if e : ∃ x, b.args x = args ∧ b.pre x h then some (b.res e.choose h) else none) else Sof cs f args h
theorem sofO_ok {nb : Nat} (b : CtrB P nb) (cs : List (Ctr P)) : SummB P nb (SofO b cs) := by
  intro f args h v h' he
  simp only [SofO] at he
  split at he
  · rename_i hf
    split at he
    · rename_i e
      simp only [Option.some.injEq] at he
      obtain ⟨e1, e2⟩ := e.choose_spec
      have := b.ok e.choose h e2
      rw [he, e1, ← hf] at this
      exact this
    · cases he
  · exact (sof_ok cs).b f args h v h' he
theorem sofO_pure {nb : Nat} {b : CtrB P nb} {cs : List (Ctr P)} {M : FuncId → Bool} (hb : M b.f = true) (hc : Ctrs P M cs) : PureBut (SofO b cs) M (pureBut (Sof cs)) := fun i hi args => by
  obtain ⟨f, h1, h2⟩ := ctrs_pure hc i hi args
  have e : ¬ i = b.f := fun e => by subst e; rw [hb] at hi; cases hi
  exact ⟨f, fun h => by simp only [SofO, if_neg e]; exact h1 h, h2⟩
theorem restsO {nb : Nat} {b : CtrB P nb} {cs : List (Ctr P)} {M : FuncId → Bool} (hm : P.follows .mixedOrders = true) (hb : M b.f = true) (hc : Ctrs P M cs) {p : Pures} {nt nm n : Nat} : Rests ⟨P, SofO b cs, p, ⟨nb, nt, nm⟩, n⟩ M := ⟨hm, sofO_ok b cs, _, sofO_pure hb hc⟩
theorem acallO_hit {nb : Nat} {b : CtrB P nb} {cs : List (Ctr P)} (x : b.X) {h : H} {as cap : List AV} (ha : as ++ cap = b.args x) (hp : b.pre x h) : aCall (SofO b cs) (.fn (.func b.f) [] cap) as h = some (b.res x h) := by
  simp only [aCall, List.nil_append, SofO, if_true]
  have q : ∃ y, b.args y = as ++ cap ∧ b.pre y h := ⟨x, ha.symm, hp⟩
  rw [dif_pos q]
  rw [b.det q.choose x h (by rw [q.choose_spec.1, ha]) q.choose_spec.2 hp]
theorem acallO_skip {nb : Nat} {b : CtrB P nb} {cs : List (Ctr P)} {i : FuncId} (hi : i ≠ b.f) {h : H} {as first cap : List AV} {r : AV × H} (hr : aCall (Sof cs) (.fn (.func i) first cap) as h = some r) : aCall (SofO b cs) (.fn (.func i) first cap) as h = some r := by
  simp only [aCall, SofO, if_neg hi] at hr ⊢
  exact hr
end
end Go.VM
end
section
/- Slices of one-cell values, whatever they are: words, bools; written slices. -/
namespace Go.VM
set_option linter.unusedSectionVars false
variable [Inhabited Globs]

/-- a value that is one plain cell -/
def AV.cell1 : AV → Bool
  | .int _ _ | .bool _ => true
  | _ => false
section
variable {α : Type} {f : α → AV}
theorem enc_bnds (hf : ∀ x, (f x).cell1 = true) (l : List α) (a b c : Nat) : AV.bnds a b c (l.map f) = true := by
  rw [AV.bnds_iff]; intro x hx; simp at hx; obtain ⟨n, _, rfl⟩ := hx
  have := hf n; cases hq : f n <;> simp [hq, AV.cell1] at this <;> simp [AV.bnd]
theorem cell1_one {a : AV} (h : a.cell1 = true) : a.one = true := by cases a <;> simp [AV.cell1] at h <;> simp [AV.one]
theorem cell1_cells {a : AV} (h : a.cell1 = true) : a.cells? = some [a] := by cases a <;> simp [AV.cell1] at h <;> simp [AV.cells?]
theorem cell1_bnd {a : AV} (h : a.cell1 = true) (x y z : Nat) : a.bnd x y z = true := by cases a <;> simp [AV.cell1] at h <;> simp [AV.bnd]
theorem enc_frz (hf : ∀ x, (f x).cell1 = true) (l : List α) (a b : Nat) (h : H) (k : Nat) : (l.map f).map (frz a b h (k + 1)) = l.map f := by
  simp only [List.map_map]
  apply List.map_congr_left; intro x _
  have := hf x; simp only [Function.comp_apply]; cases hq : f x <;> simp [hq, AV.cell1] at this <;> simp [frz]
theorem enc_wkds (hf : ∀ x, (f x).cell1 = true) : ∀ l : List α, AV.wkds (l.map f) = l.map f
  | [] => rfl
  | x :: l => by
    have := hf x
    simp only [List.map_cons, AV.wkds, enc_wkds hf l]
    cases hq : f x <;> simp [hq, AV.cell1] at this <;> simp [AV.wkd]
theorem enc_plains (hf : ∀ x, (f x).cell1 = true) : ∀ l : List α, AV.plains (l.map f) = true
  | [] => rfl
  | x :: l => by
    have := hf x
    simp only [List.map_cons, AV.plains, enc_plains hf l]
    cases hq : f x <;> simp [hq, AV.cell1] at this <;> simp [AV.plain]
theorem enc_inj (hi : ∀ x y, f x = f y → x = y) : ∀ {l m : List α}, l.map f = m.map f → l = m
  | [], [], _ => rfl
  | [], y :: m, h => by simp at h
  | x :: l, [], h => by simp at h
  | x :: l, y :: m, h => by
    simp only [List.map_cons, List.cons.injEq] at h
    rw [hi _ _ h.1, enc_inj hi h.2]
variable {P : Program}
theorem el1_of {t : TypeId} (hu : (elemT P t).bind (sizeT P) = some 1) : ∃ e, P.underlying t = some (.slice e) ∧ sizeT P e = some 1 ∧ elemT P t = some e := by
  cases he : elemT P t with
  | none => rw [he] at hu; cases hu
  | some e =>
    rw [he] at hu
    refine ⟨e, ?_, hu, rfl⟩
    unfold elemT at he
    split at he
    · rename_i e' hq; cases he; exact hq
    · cases he
theorem ld_map {t : TypeId} (hu : (P.underlying t).isSome = true) (ha : isAggT P t = false) {l : List α} {i : Nat} (d : α) (h : i < l.length) :
    aLoad P t ((l.drop i).map f) = some (f (l.getD i d)) := by
  cases hq : P.underlying t with
  | none => rw [hq] at hu; cases hu
  | some u => simp [aLoad, hq, ha, h]
theorem ldm_map {t : TypeId} (hu : (P.underlying t).isSome = true) (ha : isAggT P t = false) {l : List α} {i : Nat} (d : α) (h : i < l.length) :
    aLoad P t ((l.map f).drop i) = some (f (l.getD i d)) := by
  rw [← List.map_drop]; exact ld_map hu ha d h
theorem ixm_map {t : TypeId} (hu : (elemT P t).bind (sizeT P) = some 1) {b o n c z : Nat} {k : IntKind} {i : Nat} (h : i < n) :
    aIndexAddr P t (.msl b o n c z) (.int k i) = some (.ptr b (o + i)) := by
  obtain ⟨e, hu, hs, _⟩ := el1_of hu
  simp [aIndexAddr, h, hu, hs]
theorem put_set {l : List AV} {i : Nat} {a : AV} (h : i < l.length) : putAt l i [a] = l.set i a := by
  simp only [putAt, List.length_cons, List.length_nil]
  rw [List.set_eq_take_append_cons_drop, if_pos h]
  simp
/-- an element is written -/
theorem st_map {t : TypeId} {β : Base} (hs : sizeT P t = some 1) (hf : ∀ x, (f x).cell1 = true) {bs : List (List AV)} {ts : List Nat} {ms : List (List (AV × AV))} {b i : Nat} {l : List α} {x : α}
    (hb : bs[b]? = some (l.map f)) (h : i < l.length) :
    aStore P β t (.ptr b i) (f x) ⟨bs, ts, ms⟩ = some ⟨bs.set b ((l.set i x).map f), ts, ms⟩ := by
  have hc := cell1_cells (hf x)
  have ho := cell1_one (hf x)
  have hbn := cell1_bnd (hf x) (b + 1) 0 0
  simp only [aStore, hc, hs, hb]
  rw [if_pos (by simp [ho, hbn, AV.bnds]; omega)]
  rw [put_set (by simpa using h), List.map_set]
theorem rep_flat (a : AV) : ∀ n : Nat, (List.replicate n [a]).flatten = List.replicate n a
  | 0 => rfl
  | n + 1 => by simp [List.replicate_succ, rep_flat a n]
/-- a slice is made -/
def mkT1 (P : Program) (t : TypeId) (z : AV) : Bool :=
  match elemT P t with
  | some e => match P.info? e, zeroCs P e with
    | some i, some [z'] => i.size == 1 && decide (i.bytes ≤ 24) && AV.beq z' z
    | _, _ => false
  | none => false
theorem mk_map {t : TypeId} {z : α} (hT : mkT1 P t (f z) = true) {n : Nat} {h : H} (hn : n ≤ 1000000000) :
    aMake P t n n h = some (.msl h.blk.length 0 n n 1, { h with blk := h.blk ++ [(List.replicate n z).map f] }) := by
  unfold mkT1 at hT
  cases he : elemT P t with
  | none => rw [he] at hT; cases hT
  | some e =>
    rw [he] at hT
    simp only at hT
    split at hT
    · rename_i i z' hi hz
      simp only [Bool.and_eq_true, beq_iff_eq, decide_eq_true_eq] at hT
      obtain ⟨⟨h1, h2⟩, h3⟩ := hT
      have hz' := AV.beq_eq _ _ h3
      subst hz'
      have hb : i.bytes * n ≤ 2 ^ 48 := by
        have := Nat.mul_le_mul h2 hn
        exact Nat.le_trans this (by decide)
      have hb' : (i.bytes : Int) * (n : Int) ≤ 2 ^ 48 := by
        have : ((i.bytes * n : Nat) : Int) ≤ ((2 ^ 48 : Nat) : Int) := by exact_mod_cast hb
        simpa using this
      have hm : (n : Int) ≤ (maxLen : Int) := by
        have : n ≤ maxLen := Nat.le_trans hn (by decide)
        omega
      have hf : (List.replicate n [f z]).flatten = (List.replicate n z).map f := by
        rw [List.map_replicate]; exact rep_flat _ n
      simp only [aMake, he, hi, hz]
      rw [if_pos (by simp [h1]; omega)]
      simp [h1, hf]
    · cases hT
end
/-- words -/
abbrev u64A (b : BitVec 64) : AV := .int .u64 (b.toNat : Int)
abbrev w0 : BitVec 64 := 0#64
def u64s (l : List (BitVec 64)) : List AV := l.map u64A
def boolA (b : Bool) : AV := .bool b
abbrev b0 : Bool := false
def bools (l : List Bool) : List AV := l.map boolA
theorem u64A_c1 : ∀ x, (u64A x).cell1 = true := fun _ => rfl
theorem boolA_c1 : ∀ x, (boolA x).cell1 = true := fun _ => rfl
theorem u64A_inj (x y : BitVec 64) (h : u64A x = u64A y) : x = y := by
  simp only [u64A, AV.int.injEq, true_and] at h
  exact BitVec.eq_of_toNat_eq (by omega)
@[simp] theorem u64s_eq {l m : List (BitVec 64)} : u64s l = u64s m ↔ l = m := ⟨enc_inj u64A_inj, fun h => by rw [h]⟩
@[simp] theorem bools_eq {l m : List Bool} : bools l = bools m ↔ l = m := ⟨enc_inj (fun x y h => by simpa [boolA] using h), fun h => by rw [h]⟩
@[simp] theorem u64s_bnds (l : List (BitVec 64)) (a b c : Nat) : AV.bnds a b c (u64s l) = true := enc_bnds u64A_c1 l a b c
@[simp] theorem bools_bnds (l : List Bool) (a b c : Nat) : AV.bnds a b c (bools l) = true := enc_bnds boolA_c1 l a b c
@[simp] theorem u64s_len (l : List (BitVec 64)) : (u64s l).length = l.length := by simp [u64s]
@[simp] theorem bools_len (l : List Bool) : (bools l).length = l.length := by simp [bools]
@[simp] theorem u64s_frz (l : List (BitVec 64)) (a b : Nat) (h : H) (k : Nat) : (u64s l).map (frz a b h (k + 1)) = u64s l := enc_frz u64A_c1 l a b h k
@[simp] theorem bools_frz (l : List Bool) (a b : Nat) (h : H) (k : Nat) : (bools l).map (frz a b h (k + 1)) = bools l := enc_frz boolA_c1 l a b h k
@[simp] theorem wkds_u64s (l : List (BitVec 64)) : AV.wkds (u64s l) = u64s l := enc_wkds u64A_c1 l
@[simp] theorem plains_u64s (l : List (BitVec 64)) : AV.plains (u64s l) = true := enc_plains u64A_c1 l
section
variable {P : Program} {t : TypeId}
theorem ixm0 (hu : (elemT P t).bind (sizeT P) = some 1) {b n c z : Nat} {k : IntKind} {i : Nat} (h : i < n) :
    aIndexAddr P t (.msl b 0 n c z) (.int k i) = some (.ptr b i) := by
  have := ixm_map hu (b := b) (o := 0) (n := n) (c := c) (z := z) (k := k) h
  rwa [Nat.zero_add] at this
theorem ldm_bools (hu : (P.underlying t).isSome = true) (ha : isAggT P t = false) {l : List (Bool)} {i : Nat} (h : i < l.length) :
    aLoad P t ((bools l).drop i) = some (boolA (l.getD i b0)) := ldm_map hu ha b0 h
theorem st_bools {β : Base} (hs : sizeT P t = some 1) {bs : List (List AV)} {ts : List Nat} {ms : List (List (AV × AV))} {b i : Nat} {l : List (Bool)} {x : Bool}
    (hb : bs[b]? = some (bools l)) (h : i < l.length) :
    aStore P β t (.ptr b i) (boolA x) ⟨bs, ts, ms⟩ = some ⟨bs.set b (bools (l.set i x)), ts, ms⟩ := st_map hs boolA_c1 hb h
theorem mk_bools (hT : mkT1 P t (boolA b0) = true) {n : Nat} {h : H} (hn : n ≤ 1000000000) :
    aMake P t n n h = some (.msl h.blk.length 0 n n 1, { h with blk := h.blk ++ [bools (List.replicate n b0)] }) := mk_map hT hn
end
end Go.VM
end
section
/- A slice that was put together by append may be written from a point on at which nothing else looks at it. -/
namespace Go.VM
set_option linter.unusedSectionVars false
variable [Inhabited Globs]

mutual
/-- nothing of it lies in a block that is known for ever, but in slices of these tokens -/
def AV.ind (ts : List Nat) : AV → Bool
  | .agg cs | .tup cs => AV.inds ts cs
  | .cptr _ => false
  | .sl cs n r => AV.inds ts cs && (match r with | .tok t _ => decide (ts[t]? = some n) | .nil | .e => true | _ => cs.isEmpty)
  | .fn _ a b => AV.inds ts a && AV.inds ts b
  | _ => true
def AV.inds (ts : List Nat) : List AV → Bool
  | [] => true
  | a :: as => AV.ind ts a && AV.inds ts as
end
structure Ghost.But (ts : List Nat) (c : Nat) (G G' : Ghost) : Prop where
  φ : ∀ b x, G.φ b = some x → G'.φ b = some x
  fr : ∀ x o v, x ≠ c → G.fr x o = some v → G'.fr x o = some v
  tk : ∀ t n x, ts[t]? = some n → G.tk t n = some x → G'.tk t n = some x ∧ x.1 ≠ c
  mp : ∀ m x, G.mp m = some x → G'.mp m = some x
mutual
theorem VRel.ind {ts : List Nat} {c : Nat} {G G' : Ghost} (h : G.But ts c G') : ∀ (a : AV) (v : Value), a.ind ts = true → VRel G a v → VRel G' a v
  | .bool _, _, _, hv | .int _ _, _, _, hv | .str _, _, _, hv | .nilP, _, _, hv | .nilM, _, _, hv | .nilF, _, _, hv | .nilI, _, _, hv | .top, _, _, hv => by first | (simp only [VRel]; done) | (simp only [VRel] at hv ⊢; exact hv)
  | .agg cs, v, hb, hv => by
    simp only [VRel, AV.ind] at *
    obtain ⟨vs, e, hs⟩ := hv; exact ⟨vs, e, VRels.ind h cs _ hb hs⟩
  | .tup cs, v, hb, hv => by
    simp only [VRel, AV.ind] at *
    obtain ⟨vs, e, hs⟩ := hv; exact ⟨vs, e, VRels.ind h cs _ hb hs⟩
  | .ptr b o, v, hb, hv => by
    simp only [VRel] at *
    obtain ⟨c, e, hs⟩ := hv; exact ⟨c, h.φ _ _ e, hs⟩
  | .cptr cs, v, hb, hv => by simp [AV.ind] at hb
  | .sl cs n r, v, hb, hv => by
    simp only [VRel, AV.ind, Bool.and_eq_true] at *
    rcases hv with hv | ⟨c', o, cap, vs, e, h1, h2, h3, hs, hf⟩
    · exact .inl hv
    · refine .inr ⟨c', o, cap, vs, e, h1, h2, ?_, VRels.ind h cs _ hb.1 hs, ?_⟩
      · cases r with
        | tok t z =>
          have := hb.2
          simp only [decide_eq_true_eq] at this
          exact ⟨h3.1, (h.tk _ _ _ this h3.2).1⟩
        | _ => exact h3
      · intro i u hu
        cases r with
        | tok t z =>
          have := hb.2
          simp only [decide_eq_true_eq] at this
          exact h.fr _ _ _ (h.tk _ _ _ this h3.2).2 (hf i u hu)
        | nil => exact h3.elim
        | e => exact h3.elim
        | full =>
          have hl := hs.length
          have := hb.2
          simp only [List.isEmpty_iff] at this
          subst this
          cases vs with
          | nil => simp at hu
          | cons => simp at hl
        | no =>
          have hl := hs.length
          have := hb.2
          simp only [List.isEmpty_iff] at this
          subst this
          cases vs with
          | nil => simp at hu
          | cons => simp at hl
  | .msl b o n cap z, v, hb, hv => by
    simp only [VRel] at *
    obtain ⟨c, e, hs⟩ := hv; exact ⟨c, h.φ _ _ e, hs⟩
  | .map m, v, hb, hv => by
    simp only [VRel] at *
    obtain ⟨c, e, hs⟩ := hv; exact ⟨c, h.mp _ _ e, hs⟩
  | .fn f a b, v, hb, hv => by
    simp only [VRel, AV.ind, Bool.and_eq_true] at *
    obtain ⟨fs, cs, e, h1, h2⟩ := hv; exact ⟨fs, cs, e, VRels.ind h a _ hb.1 h1, VRels.ind h b _ hb.2 h2⟩
theorem VRels.ind {ts : List Nat} {c : Nat} {G G' : Ghost} (h : G.But ts c G') : ∀ (as : List AV) (vs : List Value), AV.inds ts as = true → VRels G as vs → VRels G' as vs
  | [], _, _, hv => by simpa only [VRels] using hv
  | a :: as, vs, hb, hv => by
    simp only [VRels, AV.inds, Bool.and_eq_true] at *
    obtain ⟨v, vs', e, h1, h2⟩ := hv; exact ⟨v, vs', e, VRel.ind h a v hb.1 h1, VRels.ind h as vs' hb.2 h2⟩
end
def tOk (k n : Nat) (ts : List Nat) : AV → Bool
  | .sl cs n' (.tok t z) => if t = k then decide (n' = n) else AV.ind ts (.sl cs n' (.tok t z))
  | a => a.ind ts
section
variable {Ge G : Ghost} {he h : H} {we w : World}
/-- where the slice stands -/
def TMain (vs : List AV) (h : H) (cs : List AV) (n k z : Nat) : Prop := .sl cs n (.tok k z) ∈ vs ∨ ∃ b o x, .ptr b o ∈ vs ∧ h.blk[b]? = some x ∧ .sl cs n (.tok k z) ∈ x
structure Thaw (vs : List AV) (h : H) (k n z : Nat) (cs : List AV) : Prop where
  main : TMain vs h cs n k z
  maps : h.maps = []
  tok : h.toks[k]? = some n
  cs : AV.inds (h.toks.take k) cs = true
  vs : ∀ a ∈ vs, tOk k n (h.toks.take k) a = true
  blk : ∀ x ∈ h.blk, ∀ a ∈ x, tOk k n (h.toks.take k) a = true
end
theorem inds_map {α : Type} {f : α → AV} (hf : ∀ ts x, (f x).ind ts = true) (ts : List Nat) : ∀ l : List α, AV.inds ts (l.map f) = true
  | [] => rfl
  | x :: l => by simp only [List.map_cons, AV.inds, hf ts x, inds_map hf ts l]; rfl
@[simp] theorem inds_ints (ts : List Nat) (l : List Int) : AV.inds ts (ints l) = true := inds_map (fun _ _ => rfl) ts l
end Go.VM
end
section
/- A region that makes one slice, in the empty heap: from then on the slice may be written; what was there before stays known. -/
namespace Go.VM
set_option linter.unusedSectionVars false
variable [Inhabited Globs]
section
variable {P : Program}
theorem SemC.seq {lv : Prop} {β : Base} {x y : Code} {A : List AV} {h : H} {K1 K : AX → List AV → H → Prop} (hx : SemC P lv β x A h K1) (hn : ∀ e A1 h1, K1 e A1 h1 → e = .normal) (hy : ∀ A1 h1, K1 .normal A1 h1 → SemC P lv β y A1 h1 K) : SemC P lv β (.seq x y) A h K := by
  intro ro Ge he we en obs G w a t Q hQ
  refine wpIn_seq ?_
  refine hx ro Ge he we en obs G w a t _ (fun x1 A1 h1 G1 a1 w1 hk t1 l1 => ?_)
  obtain rfl := hn _ _ _ hk
  exact hy _ _ hk ro Ge he we en obs G1 w1 a1 t1 Q (fun x A' h' G' a' w' hk2 t2 l2 => hQ x A' h' G' a' w' hk2 t2 fun q => (l1 q).trans (l2 q))
theorem SemC.read {E : Env} {M : FuncId → Bool} (hR : Rests E M) {c : Code} (hc : allSimpleM M c = true) {A : List AV} {h : H} {K : Kn} (hw : ∃ os, ∀ u : Nat → AV, Led (wS E c A h os K)) : SemC E.P (E.n = 300) E.β c A h (fun x A' h' => ∃ os', K x A' h' os') := by
  obtain ⟨os, hw⟩ := hw
  exact wS_ok hR c hc A h os K (hw fun _ => .undef).it
end
end Go.VM
end
section
/- Regions that draw their order: what reads may come behind the one effect, where that changes nothing for it; calls of known functions by value. -/
namespace Go.VM
set_option linter.unusedSectionVars false
variable [Inhabited Globs]
section
variable {P : Program} {G : Ghost} {w : World}
def callN (M : FuncId → Bool) : Op → Bool
  | .call { callee := .value (.func i), .. } => M i
  | _ => false
def valCall : Op → Bool
  | .call { callee := .value (.func _), .. } => false
  | .call { callee := .value _, .. } => true
  | _ => false
def quietV (M : FuncId → Bool) (o : Op) : Bool := quietKind o && !callN M o
def effV (M : FuncId → Bool) (o : Op) : Bool := !quietV M o && !allocKind o
def readsV (M : FuncId → Bool) (o : Op) : Bool := readsH o && !effV M o
theorem quiet_formV {M : FuncId → Bool} {S : Summ} {p : Pures} {β : Base} {o : Oper} {A : List AV} (hp : PureBut S M p) (hq : quietV M o.op = true)
    (hv : ∀ x args ts, o.op = .call { callee := .value x, args := args, argTypes := ts } → valCall o.op = true → ∃ g, aev A x = .fn (.func g) [] [] ∧ M g = false) :
    ∃ f : H → Option AV, (∀ h, aop P S β o A h = (f h).map fun v => (v, h)) ∧ (readsH o.op = false → ∀ h h2, f h = f h2) ∧ (∀ h zs v, f h = some v → f { h with blk := h.blk ++ zs } = some v) := by
  by_cases hcv : valCall o.op = true
  · obtain ⟨x, args, ts, hop⟩ : ∃ x args ts, o.op = .call { callee := .value x, args := args, argTypes := ts } := by
      cases hop : o.op <;> simp only [hop, valCall, Bool.false_eq_true] at hcv
      rename_i c
      obtain ⟨callee, args, ts⟩ := c
      cases callee with
      | value f => exact ⟨f, args, ts, rfl⟩
      | invoke r m => simp at hcv
      | builtin b => simp at hcv
    obtain ⟨g, h1, h2⟩ := hv x args ts hop hcv
    obtain ⟨f, h3, h4⟩ := hp g h2 (args.toList.map (aev A))
    refine ⟨f, fun h => ?_, fun e => by simp [hop, readsH] at e, h4⟩
    simp only [aop, hop, aCall, h1, List.nil_append, List.append_nil]
    exact h3 h
  · refine quiet_formM (P := P) hp (β := β) (A := A) ?_
    simp only [quietV, Bool.and_eq_true, Bool.not_eq_true'] at hq
    simp only [quietM, Bool.and_eq_true, Bool.not_eq_true']
    refine ⟨hq.1, ?_⟩
    have h2 := hq.2
    cases hop : o.op <;> simp only [callIn]
    rename_i c
    obtain ⟨callee, args, ts⟩ := c
    cases callee with
    | value f => cases f <;> simp [hop, valCall, callN] at hcv h2 ⊢ <;> exact h2
    | invoke r m => simp
    | builtin b => simp
structure SimpleV (M : FuncId → Bool) (ops : Array Oper) : Prop where
  edge : ∀ (j : Nat) (y : Oper), ops[j]? = some y → ∀ e ∈ y.after, Region.binds .any e = true → e.on < j
  kind : ∀ (j : Nat) (y : Oper), ops[j]? = some y → quietV M y.op = true ∨ allocKind y.op = true ∨ effV M y.op = true
  dst : ∀ (j : Nat) (y : Oper), ops[j]? = some y → readsV M y.op = true → y.dst = none → False
  slot : ∀ (i j : Nat) (x y : Oper), ops[i]? = some x → ops[j]? = some y → i < j → hazard ops x y = true → isAnc (Region.before ops) i j = true
  read : ∀ (i j : Nat) (x y : Oper), ops[i]? = some x → ops[j]? = some y → effV M y.op = true → (readsV M x.op = true ∨ allocKind x.op = true) → i < j
  alloc : ∀ (i j : Nat) (x y : Oper), ops[i]? = some x → ops[j]? = some y → effV M y.op = true → allocKind x.op = true → isAnc (Region.before ops) i j = true
  eff : ∀ (i j : Nat) (x y : Oper), ops[i]? = some x → ops[j]? = some y → effV M x.op = true → effV M y.op = true → i = j
  ssa : ∀ (i j : Nat) (x y : Oper), ops[i]? = some x → ops[j]? = some y → i ≤ j → readsV M x.op = true → ∀ d, y.dst = some d → d ∈ x.looksAt ops → False
  ssd : ∀ (i j : Nat) (x y : Oper), ops[i]? = some x → ops[j]? = some y → i < j → readsV M x.op = true → ∀ d, x.dst = some d → y.dst = some d → False
end
end Go.VM
end
section
/- Regions that draw their order: effects that stand in a chain, memory that is made, and reads anywhere, where the heaps that they may meet say the same. -/
namespace Go.VM
set_option linter.unusedSectionVars false
variable [Inhabited Globs]
section
variable {P : Program} {G : Ghost} {w : World}
def allocK9 : Op → Bool
  | .alloc _ => true
  | .makeSlice .. => true
  | _ => false
def effW (M : FuncId → Bool) (o : Op) : Bool := !quietV M o && !allocK9 o
def readsW (M : FuncId → Bool) (o : Op) : Bool := readsH o && !effW M o
theorem quietW_not_eff {M : FuncId → Bool} {o : Op} (h : quietV M o = true) : effW M o = false := by simp [effW, h]
/-- memory that is made: what lies in it and what names it hang on no heap -/
theorem alloc_desc (w : World) (G : Ghost) {S : Summ} {β : Base} {o : Oper} {A : List AV} {h h' : H} {v : AV} (hk : allocK9 o.op = true) (hop : aop P S β o A h = some (v, h')) :
    ∃ (cs : List AV) (mk : Nat → AV) (arr : Array Value) (e : TypeId) (u : Nat → Value), v = mk h.blk.length ∧ h' = { h with blk := h.blk ++ [cs] } ∧ (∀ G, VRels G cs arr.toList) ∧ (∀ (G : Ghost) b c, G.φ b = some (c, arr.size) → VRel G (mk b) (u c)) ∧
      ∀ (A1 : List AV) (G1 : Ghost) (a1 : Act) (w1 : World), (∀ x ∈ o.op.operands, aev A1 x = aev A x) → ARel G1 A1 a1 → (execOp a1.eval o).run P w1 = .ok (.value (u w1.heap.size)) (w1.alloc (.cells arr e)) := by
  cases hoo : o.op <;> rw [hoo] at hk <;> simp only [allocK9, Bool.false_eq_true] at hk
  case alloc e =>
    simp only [aop, hoo, Option.map_eq_some_iff] at hop
    obtain ⟨z, hz, hop⟩ := hop
    simp only [Prod.mk.injEq] at hop
    obtain ⟨rfl, rfl⟩ := hop
    obtain ⟨inf, zv, hinf, hzv, _, hrel⟩ := run_zero (w := w) hz
    refine ⟨z, fun b => .ptr b 0, zv.cells, e, fun c => .pointer (some ⟨c, 0, none⟩), rfl, rfl, hrel, fun G b c hb => by simp only [VRel]; exact ⟨_, hb, rfl⟩, fun A1 G1 a1 w1 _ _ => ?_⟩
    obtain ⟨inf', zv', hinf', hzv', hrun, _⟩ := run_zero (w := w1) hz
    rw [hinf] at hinf'; cases hinf'
    rw [hzv] at hzv'; cases hzv'
    simp [execOp, hoo, Instr.alloc, hrun, newVar, newRow]
  case makeSlice t l c =>
    simp only [aop, hoo] at hop
    split at hop
    · rename_i l0 c0 hl0 hc0
      unfold aMake at hop
      split at hop
      · rename_i e he
        split at hop
        · rename_i i z hi hz
          obtain ⟨i', zv, hi', hzv, _, hrel⟩ := run_zero (w := w) hz
          rw [hi] at hi'; cases hi'
          split at hop
          · rename_i hcc
            obtain ⟨c1, c2, c3, c4, c5, c6⟩ := hcc
            simp only [Option.some.injEq, Prod.mk.injEq] at hop
            obtain ⟨rfl, rfl⟩ := hop
            have hl := (hrel G).length
            simp only [Array.length_toList] at hl
            have hzs : zv.cells.size = i.size := by omega
            have hmax : (maxLen : Int) = 9223372036854775807 := by simp [maxLen]
            rw [hmax] at c6
            have hwl : IntKind.i64.wrap l0 = l0 := by simp only [IntKind.wrap, IntKind.bits, IntKind.signed]; simp; omega
            have hwc : IntKind.i64.wrap c0 = c0 := by simp only [IntKind.wrap, IntKind.bits, IntKind.signed]; simp; omega
            have hinit : ∀ G, VRels G (List.replicate c0.toNat z).flatten ((Array.range (c0.toNat * i.size)).map fun j => zv.cells[j % zv.cells.size]!).toList := fun G => by
              rw [← hzs, rows_eq]; exact rels_flat (hrel G) _
            refine ⟨_, fun b => .msl b 0 l0.toNat c0.toNat i.size, _, e, fun c => .slice (some ⟨c, 0, none⟩) l0.toNat c0.toNat, rfl, rfl, hinit, fun G b c hb => ?_, fun A1 G1 a1 w1 hA r1 => ?_⟩
            · simp only [VRel]
              exact ⟨_, hb, _, rfl, by omega, by unfold maxLen; omega, .inl rfl, fun q => by unfold noCap maxLen at q; omega⟩
            · obtain ⟨i', zv', hi', hzv', hrun, _⟩ := run_zero (w := w1) hz
              rw [hi] at hi'; cases hi'
              rw [hzv] at hzv'; cases hzv'
              have e1 := aev_rel r1 l
              have e2 := aev_rel r1 c
              rw [hA l (by simp [Op.operands]), hl0] at e1
              rw [hA c (by simp [Op.operands]), hc0] at e2
              simp only [VRel] at e1 e2
              have n1 : ¬ c0 < 0 := by omega
              have n2 : ¬ (281474976710656 < (i.bytes : Int) * c0) := by omega
              have n3 : ¬ l0 < 0 := by omega
              have n4 : ¬ c0 < l0 := by omega
              by_cases h0 : c0.toNat * i.size = 0
              · have hcc0 : c0.toNat = 0 := by
                  rcases Nat.mul_eq_zero.1 h0 with h | h
                  · exact h
                  · omega
                have hr0 : Array.range 0 = #[] := rfl
                simp [execOp, hoo, e1, e2, Instr.makeSlice, run_underlying (elemT_eq he), asInt, asIntOf, run_typeInfo hi, run_sizeOf hi, hwl, hwc, n1, n2, n3, n4, hcc0, newRow, hr0]
              · simp [execOp, hoo, e1, e2, Instr.makeSlice, run_underlying (elemT_eq he), asInt, asIntOf, run_typeInfo hi, run_sizeOf hi, hwl, hwc, n1, n2, n3, n4, h0, hrun, newRow]
          · cases hop
        · cases hop
      · cases hop
    · cases hop
/-- a read at place i may meet the heap that the first n operations leave, where other effects stand behind it than in the text -/
def crossW (M : FuncId → Bool) (ops : Array Oper) (i n : Nat) : Bool :=
  let b := Region.before ops
  let l := ops.toList.zipIdx
  (l.all fun (y, j) => !effW M y.op || ((!decide (j < n) || !isAnc b i j) && (decide (j < n) || !isAnc b j i))) && l.any fun (y, j) => effW M y.op && (decide (j < n) != decide (j < i))
theorem cross_of {M : FuncId → Bool} {ops : Array Oper} {i n : Nat} (h1 : ∀ j y, ops[j]? = some y → effW M y.op = true → j < n → isAnc (Region.before ops) i j = false) (h2 : ∀ j y, ops[j]? = some y → effW M y.op = true → n ≤ j → isAnc (Region.before ops) j i = false)
    (h3 : ∃ j y, ops[j]? = some y ∧ effW M y.op = true ∧ ¬ (j < n ↔ j < i)) : crossW M ops i n = true := by
  have mem : ∀ {j : Nat} {y : Oper}, (y, j) ∈ ops.toList.zipIdx ↔ ops[j]? = some y := by
    intro j y
    rw [List.mem_zipIdx_iff_getElem?]; simp
  simp only [crossW, Bool.and_eq_true]
  constructor
  · rw [List.all_eq_true]
    rintro ⟨y, j⟩ hm
    have hj := mem.1 hm
    cases he : effW M y.op
    · simp
    · by_cases hn : j < n
      · simp [hn, h1 j y hj he hn]
      · simp [hn, h2 j y hj he (by omega)]
  · obtain ⟨j, y, hj, he, hx⟩ := h3
    rw [List.any_eq_true]
    refine ⟨(y, j), mem.2 hj, ?_⟩
    simp only [he, Bool.true_and, bne_iff_ne, ne_eq, decide_eq_decide]
    exact hx
theorem trace_arun {S : Summ} {β : Base} {ops : Array Oper} {A : List AV} {h : H} {A' : List AV} {h' : H} {As : Nat → List AV} {hs : Nat → H} {vs : Nat → AV} (tr : Trace P S β ops A h A' h' As hs vs) :
    ∀ (d k : Nat), k + d ≤ ops.size → arun P S β ops ((ops.toList.drop k).take d) (As k) (hs k) = some (As (k + d), hs (k + d))
  | 0, k, _ => by simp [arun]
  | d + 1, k, hk => by
    have ho : ops[k]? = some ops[k] := by simp [show k < ops.size by omega]
    have e : (ops.toList.drop k).take (d + 1) = ops[k] :: (ops.toList.drop (k + 1)).take d := by
      have hl : k < ops.toList.length := by simpa using (show k < ops.size by omega)
      rw [List.drop_eq_getElem_cons hl]; simp
    have ih := trace_arun tr d (k + 1) (by omega)
    rw [show k + 1 + d = k + (d + 1) by omega] at ih
    obtain ⟨h1, h2⟩ := tr.step k _ ho
    rw [e, arun]
    rcases h2 with ⟨hw, hop⟩ | ⟨hw, hv, hsame⟩
    · rw [hw, hop]
      simp only
      rw [← h1]; exact ih
    · rw [hw]
      simp only
      rw [← hv, ← h1, ← hsame]; exact ih
theorem HDM_last {ek : Op → Bool} {hA : H} {ops : Array Oper} {hs : Nat → H} {D : Nat → Bool} : ∀ n, (HDM ek hA ops hs D n = hA ∧ ∀ j y, j < n → ops[j]? = some y → ek y.op = true → D j = false) ∨
    ∃ k y, k < n ∧ ops[k]? = some y ∧ ek y.op = true ∧ D k = true ∧ HDM ek hA ops hs D n = hs (k + 1) ∧ ∀ j y, k < j → j < n → ops[j]? = some y → ek y.op = true → D j = false
  | 0 => .inl ⟨rfl, fun j y hj => absurd hj (Nat.not_lt_zero _)⟩
  | n + 1 => by
    simp only [HDM]
    split
    · rename_i hc
      simp only [Bool.and_eq_true] at hc
      cases ho : ops[n]? with
      | none => rw [ho] at hc; simp at hc
      | some y =>
        rw [ho] at hc
        exact .inr ⟨n, y, by omega, ho, by simpa using hc.2, hc.1, rfl, fun j _ h1 h2 => by omega⟩
    · rename_i hc
      have hn : ∀ y, ops[n]? = some y → ek y.op = true → D n = false := fun y hy he => by
        cases hd : D n
        · rfl
        · exact absurd (by simp [hd, hy, he]) hc
      rcases HDM_last (ek := ek) (hA := hA) (ops := ops) (hs := hs) (D := D) n with ⟨q1, q2⟩ | ⟨k, y, q1, q2, q3, q4, q5, q6⟩
      · refine .inl ⟨q1, fun j y hj hy he => ?_⟩
        by_cases e : j = n
        · subst e; exact hn y hy he
        · exact q2 j y (by omega) hy he
      · refine .inr ⟨k, y, by omega, q2, q3, q4, q5, fun j y' h1 h2 hy he => ?_⟩
        by_cases e : j = n
        · subst e; exact hn y' hy he
        · exact q6 j y' h1 (by omega) hy he
/-- a region whose effects stand in a chain, so that every order comes to the order of the text -/
def simpleRegionW (M : FuncId → Bool) (ops : Array Oper) : Bool :=
  let b := Region.before ops
  let l := ops.toList.zipIdx
  l.all fun (y, j) =>
    ((y.after.toList.all fun e => !Region.binds .any e || decide (e.on < j)) && (quietV M y.op || allocK9 y.op || effW M y.op) && (!readsW M y.op || y.dst.isSome)) &&
    l.all fun (x, i) =>
      (!decide (i < j) || !hazard ops x y || isAnc b i j) &&
      (!effW M y.op || !allocK9 x.op || (isAnc b i j && decide (i < j))) &&
      (!(effW M x.op && effW M y.op) || !decide (i < j) || isAnc b i j) &&
      (!decide (i ≤ j) || !readsW M x.op || y.dst.all fun d => !(x.looksAt ops).contains d) &&
      (!decide (i < j) || !readsW M x.op || y.dst.all fun d => !(x.dst == some d))
structure SimpleW (M : FuncId → Bool) (ops : Array Oper) : Prop where
  edge : ∀ (j : Nat) (y : Oper), ops[j]? = some y → ∀ e ∈ y.after, Region.binds .any e = true → e.on < j
  kind : ∀ (j : Nat) (y : Oper), ops[j]? = some y → quietV M y.op = true ∨ allocK9 y.op = true ∨ effW M y.op = true
  dst : ∀ (j : Nat) (y : Oper), ops[j]? = some y → readsW M y.op = true → y.dst = none → False
  slot : ∀ (i j : Nat) (x y : Oper), ops[i]? = some x → ops[j]? = some y → i < j → hazard ops x y = true → isAnc (Region.before ops) i j = true
  alloc : ∀ (i j : Nat) (x y : Oper), ops[i]? = some x → ops[j]? = some y → effW M y.op = true → allocK9 x.op = true → isAnc (Region.before ops) i j = true ∧ i < j
  eff : ∀ (i j : Nat) (x y : Oper), ops[i]? = some x → ops[j]? = some y → effW M x.op = true → effW M y.op = true → i < j → isAnc (Region.before ops) i j = true
  ssa : ∀ (i j : Nat) (x y : Oper), ops[i]? = some x → ops[j]? = some y → i ≤ j → readsW M x.op = true → ∀ d, y.dst = some d → d ∈ x.looksAt ops → False
  ssd : ∀ (i j : Nat) (x y : Oper), ops[i]? = some x → ops[j]? = some y → i < j → readsW M x.op = true → ∀ d, x.dst = some d → y.dst = some d → False
theorem simpleW_of {M : FuncId → Bool} {ops : Array Oper} (h : simpleRegionW M ops = true) : SimpleW M ops := by
  unfold simpleRegionW at h
  have mem : ∀ {j : Nat} {y : Oper}, ops[j]? = some y → (y, j) ∈ ops.toList.zipIdx := fun {j y} hy => by
    rw [List.mem_zipIdx_iff_getElem?]; simpa using hy
  have one : ∀ {j : Nat} {y : Oper}, ops[j]? = some y → _ := fun {j y} hy => List.all_eq_true.1 h (y, j) (mem hy)
  have two : ∀ {i j : Nat} {x y : Oper}, ops[i]? = some x → ops[j]? = some y → _ := fun {i j x y} hx hy => by
    have := one hy
    simp only [Bool.and_eq_true] at this
    have q := List.all_eq_true.1 this.2 (x, i) (mem hx)
    simp only [Bool.and_eq_true] at q
    exact q
  refine ⟨fun j y hy e he hb => ?_, fun j y hy => ?_, fun j y hy hr hd => ?_, fun i j x y hx hy hij hz => ?_, fun i j x y hx hy he hr => ?_, fun i j x y hx hy h1 h2 hij => ?_, fun i j x y hx hy hij hr d hd hm => ?_, fun i j x y hx hy hij hr d hd hm => ?_⟩
  · have := one hy
    simp only [Bool.and_eq_true] at this
    have := List.all_eq_true.1 this.1.1.1 e (by simpa using he)
    simpa [hb] using this
  · have := one hy
    simp only [Bool.and_eq_true, Bool.or_eq_true] at this
    rcases this.1.1.2 with (q | q) | q
    · exact .inl q
    · exact .inr (.inl q)
    · exact .inr (.inr q)
  · have := one hy
    simp only [Bool.and_eq_true] at this
    have q := this.1.2
    simp [hr, hd] at q
  · have q := two hx hy
    simpa [hij, hz] using q.1.1.1.1
  · have q := two hx hy
    simpa [he, hr] using q.1.1.1.2
  · have q := two hx hy
    simpa [h1, h2, hij] using q.1.1.2
  · have q := two hx hy
    have q2 := q.1.2
    simp [hij, hr, hd] at q2
    exact q2 hm
  · have q := two hx hy
    have q2 := q.2
    simp [hij, hr, hd, hm] at q2
set_option maxHeartbeats 2000000 in
theorem drawW_any {M : FuncId → Bool} {S : Summ} {p : Pures} (hm : P.follows .mixedOrders = true) {β : Base} (hS : SummB P β.nb S) (hp : PureBut S M p) {ops : Array Oper} (hsim : simpleRegionW M ops = true) {A : List AV} {h : H} {A' : List AV} {h' : H} (hr : arun P (S) β ops ops.toList A h = some (A', h'))
    (hV : ∀ (i : Nat) (o : Oper) (x : Operand) (args : Array Operand) (ts : Array TypeId), ops[i]? = some o → o.op = .call { callee := .value x, args := args, argTypes := ts } → valCall o.op = true → awant ops A' o = some true → ∃ g, aev A' x = .fn (.func g) [] [] ∧ M g = false)
    (hcom : ∀ (i : Nat) (o : Oper) (n : Nat), ops[i]? = some o → readsW M o.op = true → n ≤ ops.size → crossW M ops i n = true → awant ops A' o = some true → ∀ A1 h1, arun P S β ops (ops.toList.take n) A h = some (A1, h1) → ∃ v, aop P S β o A' h1 = some (v, h1) ∧ ∀ d, o.dst = some d → A'[d]? = some v)
    {a : Act} (s : SRel G h w) (hβ : ∀ γ ∈ G.bases, γ.1 ≤ β.nb) (r : ARel G A a) {Q : Exit → Act → World → Prop} (hQ : ∀ G' a' w', Step G h w G' h' w' → SRel G' h' w' → ARel G' A' a' → Q .normal a' w') : wpAny P .any ops Q ops.size (Array.replicate ops.size false) a { w with drawn := w.drawn + 1 } := by
  have sim := simpleW_of hsim
  obtain ⟨As, hs, vs, t1, t2, t3, t4, t5⟩ := arun_trace _ _ _ _ _ hr
  have tr : Trace P (S) β ops A h A' h' As hs vs := ⟨t1, t2, by simpa using t3, by simpa using t4, fun i o ho => t5 i o (by simpa using ho)⟩
  obtain ⟨f, f1, f2, f3⟩ := first_effM (effW M) ops ops.size (Nat.le_refl _)
  have size_of : ∀ {i : Nat} {o : Oper}, ops[i]? = some o → i < ops.size := fun ho => (Array.getElem?_eq_some_iff.1 ho).1
  -- what is read stays to the end
  have hfin : ∀ (i : Nat) (o : Oper), ops[i]? = some o → readsW M o.op = true → ∀ t, t ∈ o.looksAt ops → (As i)[t]? = A'[t]? := fun i o ho hk t ht => by
    have key : ∀ k, i ≤ k → k ≤ ops.size → (As k)[t]? = (As i)[t]? := by
      intro k
      induction k with
      | zero => intro h1 _; have : i = 0 := by omega
                subst this; rfl
      | succ k ih =>
        intro h1 h2
        by_cases e : i = k + 1
        · rw [e]
        · have hok : ops[k]? = some ops[k] := by simp [show k < ops.size by omega]
          rw [(tr.step k _ hok).1, putA_get, if_neg, ih (by omega) (by omega)]
          rintro ⟨hd, _⟩
          exact sim.ssa i k o _ ho hok (by omega) hk t hd ht
    rw [← tr.an, key ops.size (by have := size_of ho; omega) (Nat.le_refl _)]
  have hdst : ∀ (i : Nat) (o : Oper) (d : Nat), ops[i]? = some o → readsW M o.op = true → o.dst = some d → ∀ v, A'[d]? = some v → v = vs i := fun i o d ho hk hd v hv => by
    have key : ∀ k, i + 1 ≤ k → k ≤ ops.size → (As k)[d]? = (As (i + 1))[d]? := by
      intro k
      induction k with
      | zero => intro h1 _; omega
      | succ k ih =>
        intro h1 h2
        by_cases e : i = k
        · rw [e]
        · have hok : ops[k]? = some ops[k] := by simp [show k < ops.size by omega]
          rw [(tr.step k _ hok).1, putA_get, if_neg, ih (by omega) (by omega)]
          rintro ⟨hd2, _⟩
          exact sim.ssd i k o _ ho hok (by omega) hk d hd hd2
    have h1 := key ops.size (by have := size_of ho; omega) (Nat.le_refl _)
    rw [tr.an, hv, (tr.step i o ho).1, putA_get] at h1
    have hlt : d < (As i).length := by
      refine Classical.byContradiction fun hc => ?_
      rw [if_neg (by rintro ⟨_, q⟩; exact hc q), List.getElem?_eq_none (by omega)] at h1
      cases h1
    rw [if_pos ⟨hd, hlt⟩] at h1
    exact Option.some.inj h1
  have hfev : ∀ (i : Nat) (o : Oper), ops[i]? = some o → readsW M o.op = true → ∀ x ∈ o.op.operands, aev A' x = aev (As i) x := fun i o ho hk x hx => aev_of_slots (fun t ht => by
    subst ht
    refine (hfin i o ho hk t ?_).symm
    simp only [Oper.looksAt, List.mem_append, List.mem_filterMap]
    exact .inl ⟨.tmp t, by simpa using hx, rfl⟩)
  have hfwant : ∀ (i : Nat) (o : Oper), ops[i]? = some o → readsW M o.op = true → awant ops A' o = awant ops (As i) o := fun i o ho hk => by
    unfold awant
    split
    · rfl
    · rename_i g want hg
      cases hd : (ops[g]?).bind (·.dst) with
      | none => rfl
      | some d =>
        simp only
        rw [hfin i o ho hk d (by simp [Oper.looksAt, hg, hd])]
  have hVc : ∀ (i : Nat) (o : Oper), ops[i]? = some o → quietV M o.op = true → awant ops (As i) o = some true → ∀ x args ts, o.op = .call { callee := .value x, args := args, argTypes := ts } → valCall o.op = true → ∃ g, aev (As i) x = .fn (.func g) [] [] ∧ M g = false := fun i o ho hq hw x args ts hop hv => by
    have hk : readsW M o.op = true := by rw [readsW, quietW_not_eff hq, hop]; rfl
    obtain ⟨g, h1, h2⟩ := hV i o x args ts ho hop hv (by rw [hfwant i o ho hk]; exact hw)
    refine ⟨g, ?_, h2⟩
    rw [← hfev i o ho hk x (by rw [hop]; simp [Op.operands, Call.operands])]
    exact h1
  -- what each kind does in the text's order
  have hquiet : ∀ j o, ops[j]? = some o → quietV M o.op = true → hs (j + 1) = hs j := fun j o ho hk => by
    rcases (tr.step j o ho).2 with ⟨hw0, h2⟩ | ⟨_, _, h2⟩
    · obtain ⟨g, hg, _⟩ := quiet_formV (P := P) hp (β := β) (A := As j) hk (hVc j o ho hk hw0)
      rw [hg, Option.map_eq_some_iff] at h2
      obtain ⟨_, _, h2⟩ := h2
      simp only [Prod.mk.injEq] at h2; exact h2.2.symm
    · exact h2
  have halloc : ∀ j o, ops[j]? = some o → allocK9 o.op = true → awant ops (As j) o = some true → ∃ (cs : List AV) (mk : Nat → AV) (arr : Array Value) (e : TypeId) (u : Nat → Value), vs j = mk (hs j).blk.length ∧ hs (j + 1) = { hs j with blk := (hs j).blk ++ [cs] } ∧ (∀ G, VRels G cs arr.toList) ∧ (∀ (G : Ghost) b c, G.φ b = some (c, arr.size) → VRel G (mk b) (u c)) ∧
      ∀ (A1 : List AV) (G1 : Ghost) (a1 : Act) (w1 : World), (∀ x ∈ o.op.operands, aev A1 x = aev (As j) x) → ARel G1 A1 a1 → (execOp a1.eval o).run P w1 = .ok (.value (u w1.heap.size)) (w1.alloc (.cells arr e)) := fun j o ho hk hw => by
    rcases (tr.step j o ho).2 with ⟨_, h2⟩ | ⟨h2, _⟩
    · exact alloc_desc w G hk h2
    · rw [hw] at h2; cases h2
  have before_f : ∀ i o, ops[i]? = some o → allocK9 o.op = true → i < f := fun i o ho hk => by
    by_cases hf : f < ops.size
    · obtain ⟨o', ho', he⟩ := f3 hf
      exact (sim.alloc i f o o' ho ho' he hk).2
    · have := size_of ho; omega
  have hstay : ∀ j o, f ≤ j → ops[j]? = some o → effW M o.op = false → hs (j + 1) = hs j := fun j o hj ho he => by
    rcases sim.kind j o ho with hk | hk | hk
    · exact hquiet j o ho hk
    · have := before_f j o ho hk; omega
    · rw [he] at hk; cases hk
  have hstep : ∀ j, j < f → ∃ zs, hs (j + 1) = { hs j with blk := (hs j).blk ++ zs } := fun j hj => by
    have ho : ops[j]? = some ops[j] := by simp [show j < ops.size by omega]
    rcases sim.kind j _ ho with hk | hk | hk
    · exact ⟨[], by rw [hquiet j _ ho hk]; simp⟩
    · rcases (tr.step j _ ho).2 with ⟨h1, _⟩ | ⟨_, _, h1⟩
      · obtain ⟨z, _, _, _, _, _, hz, _⟩ := halloc j _ ho hk h1
        exact ⟨[z], hz⟩
      · exact ⟨[], by rw [h1]; simp⟩
    · rw [f2 j _ hj ho] at hk; cases hk
  have hprefix : ∀ d k, k + d = f → ∃ zs, hs f = { hs k with blk := (hs k).blk ++ zs } := by
    intro d
    induction d with
    | zero => intro k hk; have : k = f := by omega
              subst this; exact ⟨[], by simp⟩
    | succ d ih =>
      intro k hk
      obtain ⟨zs, hz⟩ := ih (k + 1) (by omega)
      obtain ⟨ys, hy⟩ := hstep k (by omega)
      exact ⟨ys ++ zs, by rw [hz, hy]; simp⟩
  have hpre : ∀ k, k ≤ f → ∃ zs, hs f = { hs k with blk := (hs k).blk ++ zs } := fun k hk => hprefix (f - k) k (by omega)
  obtain ⟨zs0, hzs0⟩ := hpre 0 (Nat.zero_le _)
  rw [tr.h0] at hzs0
  have hlenf : ∀ k, k ≤ f → (hs k).blk.length ≤ (hs f).blk.length := fun k hk => by
    obtain ⟨zs, hz⟩ := hpre k hk
    rw [hz]; simp
  have hlen0 : ∀ d k, k + d ≤ f → (hs k).blk.length ≤ (hs (k + d)).blk.length := by
    intro d
    induction d with
    | zero => intro k _; exact Nat.le_refl _
    | succ d ih =>
      intro k hk
      obtain ⟨ys, hy⟩ := hstep (k + d) (by omega)
      have := ih k (by omega)
      rw [show k + (d + 1) = k + d + 1 by omega, hy]; simp; omega
  have hlens : ∀ j k, j ≤ k → k ≤ f → (hs j).blk.length ≤ (hs k).blk.length := fun j k hj hk => by
    have := hlen0 (k - j) j (by omega)
    rwa [show j + (k - j) = k by omega] at this
  -- the invariant
  let D : Array Bool → Nat → Bool := fun listed i => listed.getD i false
  have main : ∀ (fuel : Nat) (listed : Array Bool) (G1 : Ghost) (w1 : World) (a1 : Act), listed.size = ops.size → Closed ops (D listed) → SRel G1 (HDM (effW M) (hs f) ops hs (D listed) ops.size) w1 → Step G h w G1 (HDM (effW M) (hs f) ops hs (D listed) ops.size) w1 →
      ARel G1 (AD A ops vs (D listed) ops.size) a1 →
      (∀ j o, ops[j]? = some o → allocK9 o.op = true → D listed j = false → awant ops (As j) o = some true → G1.φ (hs j).blk.length = none) → unlisted ops.size listed ≤ fuel → wpAny P .any ops Q fuel listed a1 w1 := by
    -- when all is done
    have done : ∀ (listed : Array Bool) (G1 : Ghost) (w1 : World) (a1 : Act), (∀ i, i < ops.size → D listed i = true) → SRel G1 (HDM (effW M) (hs f) ops hs (D listed) ops.size) w1 → Step G h w G1 (HDM (effW M) (hs f) ops hs (D listed) ops.size) w1 →
        ARel G1 (AD A ops vs (D listed) ops.size) a1 → Q .normal a1 w1 := fun listed G1 w1 a1 hall s1 st1 r1 => by
      have e1 : HDM (effW M) (hs f) ops hs (D listed) ops.size = h' := by
        rw [HDM_same (E := fun j => decide (j < ops.size)) ops.size (fun j o hj _ _ => by simp [hall j hj, hj]), HDM_text rfl f2 hstay (fun _ _ => trivial) ops.size f1 (Nat.le_refl _) (Nat.le_refl _), tr.hn]
      have e2 : AD A ops vs (D listed) ops.size = A' := by
        rw [← tr.an, show As ops.size = As (min ops.size ops.size) by simp, ← AD_text tr (Nat.le_refl _) ops.size (Nat.le_refl _)]
        apply List.ext_getElem?
        intro t
        exact AD_same ops.size (fun j hj _ => by simp [hall j hj, hj])
      rw [e1] at s1 st1
      rw [e2] at r1
      exact hQ G1 a1 w1 st1 s1 r1
    have ready_all : ∀ (listed : Array Bool), listed.size = ops.size → Region.ready .any ops listed = [] → ∀ i, i < ops.size → D listed i = true := fun listed hsz hnil i => by
      induction i using Nat.strongRecOn with
      | _ i ih =>
        intro hi
        cases hd : D listed i
        · have : i ∈ Region.ready .any ops listed := by
            rw [mem_ready]
            refine ⟨?_, ops[i], by simp [hi], fun e he hb => ?_⟩
            · have hi' : i < listed.size := by omega
              simp only [D, Array.getD_eq_getD_getElem?, Array.getElem?_eq_getElem hi', Option.getD_some] at hd ⊢
              exact hd
            · have := sim.edge i ops[i] (by simp [hi]) e he hb
              exact ih e.on this (by omega)
          rw [hnil] at this; cases this
        · rfl
    intro fuel
    induction fuel with
    | zero =>
      intro listed G1 w1 a1 hsz hcl s1 st1 r1 hpn hfu
      have hall : ∀ i, i < ops.size → D listed i = true := fun i hi => by
        have h0 : ((List.range ops.size).filter fun i => !listed.getD i false) = [] := List.eq_nil_of_length_eq_zero (by unfold unlisted at hfu; omega)
        have := List.filter_eq_nil_iff.1 h0 i (by simpa using hi)
        simpa [D] using this
      refine ⟨?_, done listed G1 w1 a1 hall s1 st1 r1⟩
      apply List.eq_nil_iff_forall_not_mem.2
      intro j hj
      rw [mem_ready] at hj
      obtain ⟨h0, o, ho, _⟩ := hj
      have hlt : j < listed.size := by have := size_of ho; omega
      have := hall j (size_of ho)
      simp only [D, Array.getD_eq_getD_getElem?, Array.getElem?_eq_getElem hlt, Option.getD_some] at h0 this
      rw [h0] at this; cases this
    | succ fuel ih =>
      intro listed G1 w1 a1 hsz hcl s1 st1 r1 hpn hfu
      refine ⟨fun hnil => done listed G1 w1 a1 (ready_all listed hsz hnil) s1 st1 r1, fun i hi => ?_⟩
      rw [mem_ready] at hi
      obtain ⟨h0, o, ho, hpre1⟩ := hi
      have hin := size_of ho
      have hlt : i < listed.size := by omega
      have hDi : D listed i = false := by
        simp only [Array.getD_eq_getD_getElem?, Array.getElem?_eq_getElem hlt, Option.getD_some] at h0
        simp only [D, Array.getD_eq_getD_getElem?, Array.getElem?_eq_getElem hlt, Option.getD_some]; exact h0
      have ancD : ∀ k, isAnc (Region.before ops) k i = true → D listed k = true := fun k hk => anc_closed hcl i i (Nat.le_refl _) k o ho hpre1 hk
      have notD : ∀ k ok, ops[k]? = some ok → isAnc (Region.before ops) i k = true → D listed k = false := fun k ok hok hk => by
        cases hd : D listed k
        · rfl
        · have := anc_in hcl hok hd hk
          rw [hDi] at this; cases this
      -- slots
      have hslot : ∀ t, t ∈ names ops o → ∀ j, j < ops.size → (ops[j]?).bind (·.dst) = some t → j ≠ i → D listed j = decide (j < i) := fun t ht j hj hdst hji => by
        have hoj : ops[j]? = some ops[j] := by simp [hj]
        rw [hoj] at hdst
        simp only [Option.bind_some] at hdst
        rcases Nat.lt_or_gt_of_ne hji with hlt' | hgt'
        · rw [ancD j (sim.slot j i _ o hoj ho hlt' (by simp [hazard, hdst, ht]))]; simp [hlt']
        · rw [notD j _ hoj (sim.slot i j o _ ho hoj hgt' (by simp [hazard, hdst, ht]))]; simp; omega
      have hread : ∀ t, t ∈ o.looksAt ops → (AD A ops vs (D listed) ops.size)[t]? = (As i)[t]? := fun t ht => by
        rw [AD_same (E := fun j => decide (j < i)) ops.size, AD_text tr (by omega) ops.size (Nat.le_refl _), show min ops.size i = i by omega]
        intro j hj hdst
        by_cases hji : j = i
        · subst hji; rw [hDi]; simp
        · exact hslot t (by simp [names, ht]) j hj hdst hji
      have hev : ∀ x ∈ o.op.operands, aev (AD A ops vs (D listed) ops.size) x = aev (As i) x := fun x hx => aev_of_slots (fun t ht => by
        subst ht
        refine hread t ?_
        simp only [Oper.looksAt, List.mem_append, List.mem_filterMap]
        exact .inl ⟨.tmp t, by simpa using hx, rfl⟩)
      have hwant : awant ops (AD A ops vs (D listed) ops.size) o = awant ops (As i) o := by
        unfold awant
        split
        · rfl
        · rename_i g want hg
          cases hd : (ops[g]?).bind (·.dst) with
          | none => rfl
          | some d =>
            simp only
            rw [hread d (by simp [Oper.looksAt, hg, hd])]
      -- the next state
      let listed' := listed.setIfInBounds i true
      have hD' : ∀ j, D listed' j = (decide (j = i) || D listed j) := fun j => by
        simp only [D, listed', Array.getD_eq_getD_getElem?, Array.getElem?_setIfInBounds]
        by_cases hji : i = j
        · subst hji; simp [hlt]
        · simp [hji, Ne.symm hji]
      have hsz' : listed'.size = ops.size := by simpa [listed'] using hsz
      have hcl' : Closed ops (D listed') := fun j oj hoj hj e he hb => by
        rw [hD'] at hj ⊢
        simp only [Bool.or_eq_true, decide_eq_true_eq] at hj ⊢
        rcases hj with rfl | hj
        · rw [ho] at hoj; cases hoj; exact .inr (hpre1 e he hb)
        · exact .inr (hcl j oj hoj hj e he hb)
      have hAs_len : (As i).length = A.length := by
        have := AD_text tr (i := i) (by omega) ops.size (Nat.le_refl _)
        rw [show min ops.size i = i by omega] at this
        rw [← this, AD_len]
      have hAD' : AD A ops vs (D listed') ops.size = putA (AD A ops vs (D listed) ops.size) o.dst (vs i) := by
        apply List.ext_getElem?
        intro t
        rw [putA_get, AD_len]
        by_cases hd : o.dst = some t
        · rw [AD_same (E := fun j => decide (j < i + 1)) ops.size, AD_text tr (i := i + 1) (by omega) ops.size (Nat.le_refl _), show min ops.size (i + 1) = i + 1 by omega, (tr.step i o ho).1, putA_get, hAs_len]
          · by_cases htl : t < A.length
            · simp [hd, htl]
            · simp only [htl, and_false, if_false]
              rw [List.getElem?_eq_none (by omega), List.getElem?_eq_none (by rw [AD_len]; omega)]
          · intro j hj hdst
            rw [hD']
            by_cases hji : j = i
            · subst hji; simp
            · rw [hslot t (by simp [names, hd]) j hj hdst hji]
              simp only [hji, decide_false, Bool.false_or]
              congr 1; simp only [eq_iff_iff]; omega
        · simp only [hd, false_and, if_false]
          refine AD_same ops.size (fun j hj hdst => ?_)
          rw [hD']
          have : j ≠ i := fun e => by subst e; rw [ho] at hdst; exact hd hdst
          simp [this]
      have hun : unlisted ops.size listed' ≤ fuel := by
        have : unlisted ops.size listed' < unlisted ops.size listed := by
          refine filter_lt (x := i) (by simpa using hin) ?_ ?_ ?_
          · have := hDi; simp only [D] at this; simp [this]
          · have := hD' i; simp only [D, decide_true, Bool.true_or] at this; simp [this]
          · intro y _ hy
            have := hD' y; simp only [D] at this
            rw [this] at hy
            simp only [Bool.not_or, Bool.and_eq_true] at hy
            exact hy.2
        omega
      -- heaps
      have hHD_not : effW M o.op = false → HDM (effW M) (hs f) ops hs (D listed') ops.size = HDM (effW M) (hs f) ops hs (D listed) ops.size := fun he => by
        refine HDM_same ops.size (fun j oj hj hoj hje => ?_)
        rw [hD']
        have : j ≠ i := fun e => by subst e; rw [ho] at hoj; cases hoj; rw [he] at hje; cases hje
        simp [this]
      have hHD_tail : ∀ m k, m ≤ k → k ≤ ops.size → HDM (effW M) (hs f) ops hs (fun j => decide (j < m)) k = HDM (effW M) (hs f) ops hs (fun j => decide (j < m)) m := by
        intro m k
        induction k with
        | zero => intro h1 _; have : m = 0 := by omega
                  subst this; rfl
        | succ k ihk =>
          intro h1 h2
          by_cases hmk : m = k + 1
          · subst hmk; rfl
          · simp only [HDM]
            rw [if_neg (by simp; omega), ihk (by omega) (by omega)]
      have hHD_eff : effW M o.op = true → HDM (effW M) (hs f) ops hs (D listed) ops.size = hs i ∧ HDM (effW M) (hs f) ops hs (D listed') ops.size = hs (i + 1) := fun he => by
        have hfi : f ≤ i := by
          rcases Nat.lt_or_ge i f with q | q
          · rw [f2 i o q ho] at he; cases he
          · exact q
        have hDk : ∀ j oj, j < ops.size → ops[j]? = some oj → effW M oj.op = true → j ≠ i → D listed j = decide (j < i) := fun j oj hj hoj hje hji => by
          rcases Nat.lt_or_gt_of_ne hji with q | q
          · rw [ancD j (sim.eff j i oj o hoj ho hje he q)]; simp [q]
          · rw [notD j oj hoj (sim.eff i j o oj ho hoj he hje q)]; simp; omega
        constructor
        · rw [HDM_same (E := fun j => decide (j < i)) ops.size, hHD_tail i ops.size (by omega) (Nat.le_refl _), HDM_text rfl f2 hstay (fun _ _ => trivial) i hfi (by omega) (Nat.le_refl _)]
          intro j oj hj hoj hje
          by_cases hji : j = i
          · subst hji; rw [hDi]; simp
          · exact hDk j oj hj hoj hje hji
        · rw [HDM_same (E := fun j => decide (j < i + 1)) ops.size, hHD_tail (i + 1) ops.size (by omega) (Nat.le_refl _), HDM_text rfl f2 hstay (fun _ _ => trivial) (i + 1) (by omega) (by omega) (Nat.le_refl _)]
          intro j oj hj hoj hje
          rw [hD']
          by_cases hji : j = i
          · subst hji; simp
          · rw [hDk j oj hj hoj hje hji]
            simp only [hji, decide_false, Bool.false_or]
            congr 1; simp only [eq_iff_iff]; omega
      have hHD_first : allocK9 o.op = true → HDM (effW M) (hs f) ops hs (D listed) ops.size = hs f := fun hk => by
        refine HDM_none ops.size (fun j oj hj hoj hje => ?_)
        exact notD j oj hoj (sim.alloc i j o oj ho hoj hje hk).1
      have hHD_read : readsW M o.op = true → ∃ n, f ≤ n ∧ n ≤ ops.size ∧ HDM (effW M) (hs f) ops hs (D listed) ops.size = hs n ∧ (crossW M ops i n = true ∨ (i ≤ f ∧ n = f) ∨ (f ≤ i ∧ hs n = hs i)) := fun hk => by
        have heq : ∀ d k, f ≤ k → k + d ≤ ops.size → (∀ j y, k ≤ j → j < k + d → ops[j]? = some y → effW M y.op = false) → hs (k + d) = hs k := by
          intro d
          induction d with
          | zero => intro k _ _ _; rfl
          | succ d ihd =>
            intro k h1 h2 h3
            have hok : ops[k + d]? = some ops[k + d] := by simp [show k + d < ops.size by omega]
            rw [show k + (d + 1) = (k + d) + 1 by omega, hstay (k + d) _ (by omega) hok (h3 _ _ (by omega) (by omega) hok)]
            exact ihd k h1 (by omega) fun j y q1 q2 => h3 j y q1 (by omega)
        have same : ∀ n, f ≤ n → n ≤ ops.size → (∀ j y, ops[j]? = some y → effW M y.op = true → (j < n ↔ j < i)) → f ≤ i → hs n = hs i := fun n h1 h2 h3 h4 => by
          rcases Nat.le_total n i with q | q
          · have := heq (i - n) n h1 (by omega) (fun j y q1 q2 hy => by
              cases he : effW M y.op
              · rfl
              · have := h3 j y hy he; omega)
            rw [show n + (i - n) = i by omega] at this; exact this.symm
          · have := heq (n - i) i h4 (by omega) (fun j y q1 q2 hy => by
              cases he : effW M y.op
              · rfl
              · have := h3 j y hy he; omega)
            rw [show i + (n - i) = n by omega] at this; exact this
        rcases HDM_last (ek := effW M) (hA := hs f) (ops := ops) (hs := hs) (D := D listed) ops.size with ⟨q1, q2⟩ | ⟨k, y, q1, q2, q3, q4, q5, q6⟩
        · refine ⟨f, Nat.le_refl _, f1, q1, ?_⟩
          by_cases hif : i ≤ f
          · exact .inr (.inl ⟨hif, rfl⟩)
          · by_cases hx : ∃ j y, ops[j]? = some y ∧ effW M y.op = true ∧ ¬ (j < f ↔ j < i)
            · refine .inl (cross_of (fun j y hy he hj => by rw [f2 j y hj hy] at he; cases he) (fun j y hy he hj => ?_) hx)
              cases hanc : isAnc (Region.before ops) j i
              · rfl
              · have h1 := ancD j hanc
                have h2 := q2 j y (size_of hy) hy he
                rw [h1] at h2; cases h2
            · refine .inr (.inr ⟨by omega, same f (Nat.le_refl _) f1 (fun j y hy he => ?_) (by omega)⟩)
              exact Classical.byContradiction fun hc => hx ⟨j, y, hy, he, hc⟩
        · have hfk : f ≤ k := by
            rcases Nat.lt_or_ge k f with q | q
            · rw [f2 k y q q2] at q3; cases q3
            · exact q
          refine ⟨k + 1, by omega, by omega, q5, ?_⟩
          by_cases hx : ∃ j y, ops[j]? = some y ∧ effW M y.op = true ∧ ¬ (j < k + 1 ↔ j < i)
          · refine .inl (cross_of (fun j z hz he hj => ?_) (fun j z hz he hj => ?_) hx)
            · cases hanc : isAnc (Region.before ops) i j
              · rfl
              · have h1 := notD j z hz hanc
                have h2 : D listed j = true := by
                  by_cases e : j = k
                  · subst e; exact q4
                  · exact anc_in hcl q2 q4 (sim.eff j k z y hz q2 he q3 (by omega))
                rw [h1] at h2; cases h2
            · cases hanc : isAnc (Region.before ops) j i
              · rfl
              · have h1 := ancD j hanc
                have h2 := q6 j z (by omega) (size_of hz) hz he
                rw [h1] at h2; cases h2
          · have hall : ∀ j z, ops[j]? = some z → effW M z.op = true → (j < k + 1 ↔ j < i) := fun j z hz he => Classical.byContradiction fun hc => hx ⟨j, z, hz, he, hc⟩
            have hki : k < i := (hall k y q2 q3).1 (by omega)
            exact .inr (.inr ⟨by omega, same (k + 1) (by omega) (by omega) hall (by omega)⟩)
      have hbases1 : ∀ γ ∈ G1.bases, γ.1 ≤ β.nb := by rw [st1.bases]; exact hβ
      have hpend : ∀ (G2 : Ghost) (w2 : World) (h2 : H), Step G1 (HDM (effW M) (hs f) ops hs (D listed) ops.size) w1 G2 h2 w2 → (∀ j oj, ops[j]? = some oj → allocK9 oj.op = true → D listed' j = false → awant ops (As j) oj = some true → G2.φ (hs j).blk.length = none) := by
        intro G2 w2 h2 st2 j oj hoj hjk hj hjw
        rw [hD'] at hj
        simp only [Bool.or_eq_false_iff, decide_eq_false_iff_not] at hj
        have hn := hpn j oj hoj hjk hj.2 hjw
        cases hq : G2.φ (hs j).blk.length with
        | none => rfl
        | some c =>
          -- it lies below what the heap holds now, so it was known before
          have hjf := before_f j oj hoj hjk
          have hnoeff : HDM (effW M) (hs f) ops hs (D listed) ops.size = hs f := HDM_none ops.size (fun k ok hk hok hke => by
            cases hd : D listed k
            · rfl
            · have := anc_in hcl hok hd (sim.alloc j k oj ok hoj hok hke hjk).1
              rw [hj.2] at this; cases this)
          have hlt2 : (hs j).blk.length < (hs f).blk.length := by
            obtain ⟨z, _, _, _, _, _, hz, _⟩ := halloc j oj hoj hjk hjw
            have := hlens (j + 1) f (by omega) (Nat.le_refl _)
            rw [hz] at this; simp at this; omega
          have := st2.pend.1 _ c hq (by rw [hnoeff]; exact hlt2)
          rw [hn] at this; cases this
      show wpOp P ops Q i (wpAny P .any ops Q fuel listed') a1 w1
      unfold wpOp
      simp only [ho]
      rcases (tr.step i o ho).2 with ⟨hw, hop⟩ | ⟨hw, hv, hsame⟩
      · rw [awant_ok r1 (hwant.trans hw), if_pos rfl]
        left
        rcases sim.kind i o ho with hk | hk | hk
        · -- quiet
          have hneff : effW M o.op = false := quietW_not_eff hk
          have haop : aop P (S) β o (AD A ops vs (D listed) ops.size) (HDM (effW M) (hs f) ops hs (D listed) ops.size) = some (vs i, HDM (effW M) (hs f) ops hs (D listed) ops.size) := by
            rw [aop_congr hev]
            obtain ⟨g, hg1, hg2, hg3⟩ := quiet_formV (P := P) hp (β := β) (A := As i) hk (hVc i o ho hk hw)
            rw [hg1, Option.map_eq_some_iff] at hop
            obtain ⟨v, hv1, hv2⟩ := hop
            simp only [Prod.mk.injEq] at hv2
            rw [hg1]
            cases hrd : readsH o.op
            · rw [hg2 hrd _ (hs i), hv1, hv2.1]; rfl
            · have hrv : readsW M o.op = true := by simp [readsW, hrd, quietW_not_eff hk]
              obtain ⟨n, n1, n2, hH, hcr | ⟨hif, rfl⟩ | ⟨hfi, hhs⟩⟩ := hHD_read hrv
              · rw [hH]
                have hpre := trace_arun tr n 0 (by omega)
                rw [tr.a0, tr.h0, List.drop_zero, Nat.zero_add] at hpre
                obtain ⟨v', q1, q2⟩ := hcom i o n ho hrv n2 hcr (by rw [hfwant i o ho hrv]; exact hw) _ _ hpre
                rw [aop_congr (hfev i o ho hrv), hg1] at q1
                rw [q1]
                cases hd : o.dst with
                | none => exact (sim.dst i o ho hrv hd).elim
                | some d => rw [hdst i o d ho hrv hd v' (q2 d hd)]
              · rw [hH]
                obtain ⟨zs, hz⟩ := hpre i hif
                rw [hz, hg3 _ zs v hv1, hv2.1]; rfl
              · rw [hH, hhs, hv1, hv2.1]; rfl
          refine aop_ok hS s1 hbases1 r1 haop (fun G2 w2 u st2 s2 hrel => ?_)
          refine ih listed' G2 w2 _ hsz' hcl' ?_ ?_ ?_ (hpend G2 w2 _ st2) hun
          · rw [hHD_not hneff]; exact s2
          · rw [hHD_not hneff]; exact st1.trans st2
          · rw [hAD']; exact put_rel (r1.mono st2.le) hrel o.dst
        · -- alloc
          have hneff : effW M o.op = false := by simp [effW, hk]
          obtain ⟨z, mk, arr, e, um, hvi, hsi, hrel, hmk, hrun⟩ := halloc i o ho hk hw
          have hif := before_f i o ho hk
          have hHf := hHD_first hk
          have hblk : (hs f).blk[(hs i).blk.length]? = some z := by
            obtain ⟨zs, hzs⟩ := hpre (i + 1) (by omega)
            rw [hzs, hsi]; simp
          have hn := hpn i o ho hk hDi hw
          rw [hHf] at s1 st1
          have hbl : ∀ γ ∈ G1.bases, γ.1 ≤ (hs i).blk.length := fun γ hγ => by
            rw [st1.bases] at hγ
            have h1 := (s.bases γ hγ).1
            have h2 := hlens 0 i (Nat.zero_le _) (by omega)
            rw [tr.h0] at h2; omega
          obtain ⟨G2, hle2, s2, hφ2, hφo, hst⟩ := s1.allocPend hblk hn hbl e (hrel G1)
          have st2 := hst G h w st1 (by have := hlens 0 i (Nat.zero_le _) (by omega); rw [tr.h0] at this; exact this)
          have hex := hrun _ G1 a1 w1 hev r1
          unfold Oper.wp
          rw [hex]
          refine ih listed' G2 _ _ hsz' hcl' ?_ ?_ ?_ ?_ hun
          · rw [hHD_not hneff, hHf]; exact s2
          · rw [hHD_not hneff, hHf]; exact st2
          · rw [hAD', hvi]; exact put_rel (r1.mono hle2) (hmk G2 _ _ hφ2) o.dst
          · intro j oj hoj hjk hj hjw
            rw [hD'] at hj
            simp only [Bool.or_eq_false_iff, decide_eq_false_iff_not] at hj
            rw [hφo]
            · exact hpn j oj hoj hjk hj.2 hjw
            · have hjf := before_f j oj hoj hjk
              obtain ⟨z2, _, _, _, _, _, hz2, _⟩ := halloc j oj hoj hjk hjw
              rcases Nat.lt_or_gt_of_ne hj.1 with q | q
              · have := hlens (j + 1) i (by omega) (by omega)
                rw [hz2] at this; simp at this; omega
              · have := hlens (i + 1) j (by omega) (by omega)
                rw [hsi] at this; simp at this; omega
        · -- an effect
          obtain ⟨e1, e2⟩ := hHD_eff hk
          rw [e1] at s1 st1
          refine aop_ok hS s1 hbases1 r1 (by rw [aop_congr hev]; exact hop) (fun G2 w2 u st2 s2 hrel => ?_)
          refine ih listed' G2 w2 _ hsz' hcl' ?_ ?_ ?_ (hpend G2 w2 _ (by rw [e1]; exact st2)) hun
          · rw [e2]; exact s2
          · rw [e2]; exact st1.trans st2
          · rw [hAD']; exact put_rel (r1.mono st2.le) hrel o.dst
      · -- not wanted
        rw [awant_ok r1 (hwant.trans hw)]
        simp only [Bool.false_eq_true, if_false]
        have hsameHD : HDM (effW M) (hs f) ops hs (D listed') ops.size = HDM (effW M) (hs f) ops hs (D listed) ops.size := by
          by_cases he : effW M o.op = true
          · obtain ⟨e1, e2⟩ := hHD_eff he
            rw [e1, e2, hsame]
          · exact hHD_not (by simpa using he)
        refine ih listed' G1 w1 _ hsz' hcl' ?_ ?_ ?_ (hpend G1 w1 _ (.refl _ _ _)) hun
        · rw [hsameHD]; exact s1
        · rw [hsameHD]; exact st1
        · rw [hAD', hv]; exact put_rel r1 (undef_rel G1) o.dst
  have hD0 : ∀ j, D (Array.replicate ops.size false) j = false := fun j => by
    simp only [D, Array.getD_eq_getD_getElem?]
    by_cases hj : j < ops.size
    · simp [hj]
    · simp [hj]
  have hHD0 : HDM (effW M) (hs f) ops hs (D (Array.replicate ops.size false)) ops.size = hs f := HDM_none _ (fun j o _ _ _ => hD0 j)
  have hAD0 : ∀ k, AD A ops vs (D (Array.replicate ops.size false)) k = A := fun k => by
    induction k with
    | zero => rfl
    | succ k ihk => simp only [AD, hD0, Bool.false_eq_true, if_false, ihk]
  have s0 : SRel G (hs f) { w with drawn := w.drawn + 1 } := by rw [hzs0]; exact (s.pendBlocks zs0).drawn _
  have st0 : Step G h w G (hs f) { w with drawn := w.drawn + 1 } := by
    rw [hzs0]
    exact ⟨.refl G, rfl, rfl, rfl, Nat.le_refl _, fun _ _ _ => rfl, fun _ ho => .inl (ho.imp (fun ⟨b, sb, q1, q2⟩ => ⟨b, sb, q1, fun q => q2 (by rw [List.getElem?_append_left (s.dom.φ _ _ q1)]; exact q)⟩) fun q => q), rfl, ⟨fun _ _ h _ => h, by simp⟩, fun _ _ _ h => .inl h⟩
  refine main ops.size _ G _ a (by simp) (fun j o _ hj => by rw [hD0] at hj; cases hj) (by rw [hHD0]; exact s0) (by rw [hHD0]; exact st0) (by rw [hAD0]; exact r) ?_ ?_
  · intro j o hoj hk _ hw
    cases hq : G.φ (hs j).blk.length with
    | none => rfl
    | some c =>
      have h1 := s.dom.φ _ c hq
      have h2 := hlens 0 j (Nat.zero_le _) (by have := before_f j o hoj hk; omega)
      rw [tr.h0] at h2; omega
  · unfold unlisted
    have := List.length_filter_le (fun i => !(Array.replicate ops.size false).getD i false) (List.range ops.size)
    simpa using this

end
end Go.VM
end
section
/- Whole trees of calls, with regions that draw their order and write. -/
namespace Go.VM
set_option linter.unusedSectionVars false
variable [Inhabited Globs]
def noS : Summ := fun _ _ _ => none
/-- does a read say the same at all heaps that it may meet? -/
def comW (P : Program) (S : Summ) (β : Base) (ops : Array Oper) (A : List AV) (h : H) (A' : List AV) : Bool :=
  ops.toList.zipIdx.all fun (o, i) => !readsW none1 o.op || (List.range (ops.size + 1)).all fun n => !crossW none1 ops i n || !(awant ops A' o == some true) ||
    match arun P S β ops (ops.toList.take n) A h with
    | some (_, h1) => match aop P S β o A' h1 with
      | some (v, h2) => H.beq h2 h1 && o.dst.all fun d => match A'[d]? with | some x => AV.beq x v | none => false
      | none => false
    | none => true
def Dw (P : Program) (S : Summ) : Base → Draws := fun β ops A h =>
  if simpleRegionW none1 ops && ops.all fun o => !valCall o.op then
    match arun P S β ops ops.toList A h with
    | some (A', h') => if comW P S β ops A h A' then some (A', h') else none
    | none => none
  else none
def Dc (P : Program) (S : Summ) : Base → Draws := fun β ops A h =>
  match Dsafe P (pureOf S) β ops A h with
  | some r => some r
  | none => Dw P (pureS (pureOf S)) β ops A h
/-- a call that hands its whole heap on -/
def acallO (P : Program) (S : Summ) (D : Base → Draws) (nb n : Nat) (f : FuncId) (args : List AV) (h : H) : Option (AV × H) :=
  match P.funcs[f]? with
  | some fn =>
    match fn.body with
    | some c =>
      match exec P S D ⟨nb, 0, 0⟩ n c (args ++ List.replicate (fn.ntmps - args.length) .undef) h with
      | some (.exit _, _, _) => none
      | some (_, A, h1) =>
        match resvs P h1 A fn.results.toList with
        | some vs => some (oneOrTup vs, h1)
        | none => none
      | none => none
    | none => none
  | none => none
/-- special: functions whose regions are tried order by order; open_: functions that hand their whole heap on -/
def deepW (P : Program) (special open_ : FuncId → Bool) (fuel : Nat) : Nat → Nat → Summ
  | 0, _ => noS
  | d + 1, nb => fun f args h =>
    if callable P f then
      if open_ f then acallO P (deepW P special open_ fuel d nb) (if special f then Dall P (deepW P special open_ fuel d nb) else Dc P (deepW P special open_ fuel d nb)) nb fuel f args h
      else acall P (deepW P special open_ fuel d h.blk.length) (if special f then Dall P (deepW P special open_ fuel d h.blk.length) else Dc P (deepW P special open_ fuel d h.blk.length)) fuel f args h
    else none
section
variable {P : Program}
theorem dw_ok {p : Pures} (hm : P.follows .mixedOrders = true) (hp : PureOk P p) : DrawsOk P (Dw P (pureS p)) := by
  intro β ops A h A' h' he G w a s hβ r id Q hQ
  simp only [Dw] at he
  split at he
  · rename_i hs
    simp only [Bool.and_eq_true] at hs
    split at he
    · rename_i A1 h1 hr
      split at he
      · rename_i hc
        simp only [Option.some.injEq, Prod.mk.injEq] at he
        obtain ⟨rfl, rfl⟩ := he
        refine wp_region_any hm ?_
        refine drawW_any (S := pureS p) (M := none1) (p := p) hm (pureS_ok hp).b (fun i _ args => ⟨fun _ => p i args, fun _ => rfl, fun _ _ _ e => e⟩) hs.1 hr (fun i o x args ts ho hop hv _ => ?_) (fun i o n ho hrd hn hcr hw A2 h2 ha => ?_) s hβ r hQ
        · have := Array.all_eq_true.1 hs.2 i (Array.getElem?_eq_some_iff.1 ho).1
          rw [(Array.getElem?_eq_some_iff.1 ho).2] at this
          rw [hv] at this; cases this
        · have h3 := List.all_eq_true.1 hc (o, i) (by rw [List.mem_zipIdx_iff_getElem?]; simpa using ho)
          simp only [hrd, Bool.not_true, Bool.false_or] at h3
          have h4 := List.all_eq_true.1 h3 n (by simp; omega)
          simp only [hcr, hw, ha, Bool.not_true, Bool.false_or, beq_self_eq_true] at h4
          split at h4
          · rename_i v h5 hop
            simp only [Bool.and_eq_true] at h4
            have e := H.beq_eq h4.1
            subst e
            refine ⟨v, hop, fun d hd => ?_⟩
            have h6 := h4.2
            rw [hd] at h6
            simp only [Option.all_some] at h6
            split at h6
            · rename_i x hx
              rw [hx, AV.beq_eq _ _ h6]
            · cases h6
          · cases h4
      · cases he
    · cases he
  · cases he
theorem dc_okB {S : Summ} {nb : Nat} (hm : P.follows .mixedOrders = true) (hS : SummB P nb S) : DrawsOk P (Dc P S) := by
  intro β ops A h A' h' he
  simp only [Dc] at he
  split at he
  · rename_i r hr
    simp only [Option.some.injEq] at he; subst he
    exact dsafe_ok hm (pureOf_okB hS) β ops A h A' h' hr
  · exact dw_ok hm (pureOf_okB hS) β ops A h A' h' he
theorem acallO_ok {S : Summ} {nb : Nat} {D : Base → Draws} {n : Nat} {f : FuncId} {args : List AV} {h : H} {v : AV} {h' : H} (hS : SummB P nb S) (hD : DrawsB P ⟨nb, 0, 0⟩ D) (he : acallO P S D nb n f args h = some (v, h')) : CallOkB P nb f args h v h' := by
  intro G w vs s hb hgl hr
  unfold acallO at he
  split at he
  · rename_i fn hfn
    split at he
    · rename_i c hc
      have hl := hr.length
      have key : ∀ (x : AX) (A : List AV) (h1 : H), exec P S D ⟨nb, 0, 0⟩ n c (args ++ List.replicate (fn.ntmps - args.length) .undef) h = some (x, A, h1) → (x = .normal ∨ x = .ret) → ∀ vs', resvs P h1 A fn.results.toList = some vs' → (oneOrTup vs', h1) = (v, h') →
          Calls P f vs.toArray w (fun e w' => ∃ G' u, e = .returned u ∧ Step G h w G' h' w' ∧ SRel G' h' w' ∧ VRel G' v u) := by
        intro x A h1 hex hx vs' hvs' hlv
        refine calls_of_wp hfn hc ?_
        refine exec_ok (β := ⟨nb, 0, 0⟩) hS hD c _ _ _ _ _ hex _ w _ s hb ?_ _ (fun G1 a1 w1 st1 s1 r1 => ?_)
        · refine ⟨?_, rfl, hgl⟩
          simp only [Array.toList_append, Array.toList_replicate, List.size_toArray]
          rw [← hl]
          exact hr.append (VRels.replicate (undef_rel _) _)
        · obtain ⟨u, hu1, hu2⟩ := results_ok s1 r1 hvs'
          simp only [Prod.mk.injEq] at hlv
          obtain ⟨rfl, rfl⟩ := hlv
          have : bodyPost P fn (fun e w' => ∃ G' u, e = .returned u ∧ Step G h w G' h1 w' ∧ SRel G' h1 w' ∧ VRel G' (oneOrTup vs') u) .ret a1 w1 := ⟨r1.defers, u, hu1, G1, u, rfl, st1, s1, hu2⟩
          rcases hx with rfl | rfl
          · exact this
          · exact this
      split at he
      · cases he
      · rename_i x A h1 hne hex
        split at he
        · rename_i vs' hvs'
          refine key x A h1 hex ?_ vs' hvs' (by simpa using he)
          cases x
          · exact .inl rfl
          · exact (hne _ rfl).elim
          · exact .inr rfl
        · cases he
      · cases he
    · cases he
  · cases he
theorem deepW_ok {special open_ : FuncId → Bool} {fuel : Nat} (hm : P.follows .mixedOrders = true) : ∀ d nb, SummB P nb (deepW P special open_ fuel d nb)
  | 0, _ => fun f args h v h' he => by cases he
  | d + 1, nb => by
    intro f args h v h' he
    simp only [deepW] at he
    split at he
    · rename_i hc
      refine ⟨hc, ?_⟩
      split at he
      · refine acallO_ok (deepW_ok hm d nb) ?_ he
        split
        · exact dall_okB hm (deepW_ok hm d nb)
        · exact dc_okB hm (deepW_ok hm d nb) _
      · refine (acall_okB (deepW_ok hm d h.blk.length) ?_ he).b nb
        split
        · exact dall_okB hm (deepW_ok hm d h.blk.length)
        · exact dc_okB hm (deepW_ok hm d h.blk.length) _
    · cases he
end
end Go.VM
end
section
/- Package variables that are laid: tables of integers, by their cells. -/
namespace Go.VM
open Go.ChangeShapes Go.WideShapes Go.RowKit

theorem laid_ints {P : Program} {W : World} {name : String} {g : Nat} {t e : TypeId} {k : IntKind} {zs : List Int} {rest : List (String × DataW Unit)} {ps : List MemPlace}
    (hL : DataW.LaidVars P W ((name, .agg (zs.map fun z => .lit (.int k z))) :: rest) ps) (hg : P.globalNamed name = some g) (ht : (P.globals[g]?).map (·.type) = some t)
    (hu : P.underlying t = some (.array zs.length e)) (he : P.underlying e = some (.int k)) (hc : P.cellsOf e = 1) :
    (∀ (i : Nat) (v : Value), (zs.map fun z => Value.int k z)[i]? = some v → W.cell? ⟨g, i, none⟩ = some v) ∧ ∃ qs, DataW.LaidVars P W rest qs := by
  obtain ⟨g', t', cs, fuel, p, q, hg', ht', hv, hd, hr, _⟩ := hL
  obtain rfl := Option.some.inj (hg.symm.trans hg')
  obtain rfl := Option.some.inj (ht.symm.trans ht')
  refine ⟨fun i v hi => ?_, q, hr⟩
  obtain ⟨xs, m, _, ex, _, hl, hel⟩ := DataW.trod_array hu hd
  rw [List.getElem?_map, Option.map_eq_some_iff] at hi
  obtain ⟨z, hz, rfl⟩ := hi
  have hlt : i < zs.length := (List.getElem?_eq_some_iff.1 hz).1
  have hE := hel i hlt
  rw [hc, Nat.mul_one, List.getElem?_eq_getElem (by omega)] at hE
  obtain ⟨z', e1, e2, _⟩ := DataW.trod_int he hE
  have e3 : (xs.map (·.1)) = zs.map fun n => .lit (.int k n) := (DataW.agg.inj (Prod.mk.inj ex).1).symm
  have e4 : (xs.map (·.1))[i]? = (zs.map fun n => (DataW.lit (.int k n) : DataW Unit))[i]? := by rw [e3]
  rw [List.getElem?_map, List.getElem?_map, List.getElem?_eq_getElem (by omega : i < xs.length), hz, e2] at e4
  have hzz : z' = z := by
    simp only [Option.map_some, Option.some.injEq, DataW.lit.injEq, Lit.int.injEq, true_and] at e4
    exact e4
  subst hzz
  rw [World.var?_cell hg hv i]
  have : cs.toList[i]? = some (.int k z') := by
    have h0 : ((cs.toList.drop i).take 1)[0]? = some (.int k z') := by rw [e1]; rfl
    simpa using h0
  simpa using this
end Go.VM
end
