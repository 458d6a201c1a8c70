/- Own texts on reading the model, joined: VmRi, VmZ3, VmGm, VmFm, VmEn. -/
import Derived.Test.YtheoddlhpklccaaVm6
set_option linter.unusedSimpArgs false
set_option linter.unusedVariables false
set_option linter.unnecessarySimpa false
section
/- Iterators: what their code comes to, with calls of yield. -/
namespace Go.VM
set_option linter.unusedSectionVars false
variable [Inhabited Globs]
section
/-- where an iterator runs -/
structure Rx (E : Env) where
  Ge : Ghost
  he : H
  we : World
  en : Ent E.β Ge he we
  /-- what is known of blocks: nothing has jumped, or a jump pends -/
  ob : Option Code → List (Nat × Obj)
  l : Nat
  G0 : Ghost

variable {E : Env} {M : FuncId → Bool} (R : Rx E)
/-- where an iterator is: it defers nothing -/
structure SttI (R : Rx E) (o : Option Code) (G : Ghost) (A : List AV) (h : H) (w : World) (a : Act) : Prop where
  ws : WS (R.ob o) R.Ge R.he R.we G h w
  bare : a.defers = []
  r : ARel G A a
/-- an iterator's code from these slots and this heap -/
def SemI (o : Option Code) (c : Code) (A : List AV) (h : H) (K : Option Code → AX → List AV → H → Prop) : Prop :=
  ∀ (G : Ghost) (w : World) (a : Act), R.G0.Le G → SttI R o G A h w a → ∀ (Q : Exit → Act → World → Prop),
    (∀ o' x A' h' G' a' w', K o' x A' h' → R.G0.Le G' → SttI R o' G' A' h' w' a' → Q x.toExit a' w') → c.wpIn (fen none) 0 E.P Q a w
variable {R} {o : Option Code} {G G' : Ghost} {w w' : World} {a a' : Act} {A A' : List AV} {h h' : H} {K : Option Code → AX → List AV → H → Prop}

theorem SttI.region (t : SttI R o G A h w a) (st : Step G h w G' h' w') (s : SRel G' h' w') (r : ARel G' A' a') : SttI R o G' A' h' w' a' :=
  ⟨⟨t.ws.st.trans st, s, t.ws.keep.step st, r.gl⟩, r.defers, r⟩
theorem SemI.mono {c : Code} {K' : Option Code → AX → List AV → H → Prop} (hc : SemI R o c A h K') (hK : ∀ o' x A' h', K' o' x A' h' → K o' x A' h') : SemI R o c A h K :=
  fun G w a hle t Q hQ => hc G w a hle t Q fun o' x A' h' G' a' w' hk => hQ o' x A' h' G' a' w' (hK _ _ _ _ hk)
theorem SemI.seq {x y : Code} (hx : SemI R o x A h (fun o' e A' h' => match e with | .normal => SemI R o' y A' h' K | e => K o' e A' h')) : SemI R o (.seq x y) A h K := by
  intro G w a hle t Q hQ
  refine wpIn_seq (hx G w a hle t _ (fun o' e A' h' G' a' w' hk hle' t' => ?_))
  cases e with
  | normal => exact hk G' w' a' hle' t' Q hQ
  | exit id => exact hQ o' (.exit id) A' h' G' a' w' hk hle' t'
  | ret => exact hQ o' .ret A' h' G' a' w' hk hle' t'
theorem SemI.cond {c : Operand} {x y : Code} {b : Bool} (hb : aev A c = .bool b) (hx : SemI R o (if b then x else y) A h K) : SemI R o (.cond c x y) A h K := by
  intro G w a hle t Q hQ
  have hc := aev_rel t.r c
  rw [hb] at hc; simp only [VRel] at hc
  cases b
  · exact wpIn_cond_false hc (hx G w a hle t Q hQ)
  · exact wpIn_cond_true hc (hx G w a hle t Q hQ)
theorem SemI.block {id : Nat} {c : Code} (hx : SemI R o c A h (fun o' e A' h' => match e with | .exit i => if i = id then K o' .normal A' h' else K o' (.exit i) A' h' | e => K o' e A' h')) : SemI R o (.block id c) A h K := by
  intro G w a hle t Q hQ
  refine wpIn_block (hx G w a hle t _ (fun o' e A' h' G' a' w' hk hle' t' => ?_))
  cases e with
  | normal => exact hQ o' .normal A' h' G' a' w' hk hle' t'
  | ret => exact hQ o' .ret A' h' G' a' w' hk hle' t'
  | exit i =>
    simp only at hk
    split at hk
    · rename_i hi
      simp only [AX.toExit, Exit.inBlock, hi, if_true]
      exact hQ o' .normal A' h' G' a' w' hk hle' t'
    · rename_i hi
      simp only [AX.toExit, Exit.inBlock, hi, if_false]
      exact hQ o' (.exit i) A' h' G' a' w' hk hle' t'
theorem SemI.skip (hk : K o .normal A h) : SemI R o .skip A h K := fun G w a hle t Q hQ => wpIn_skip (hQ o .normal A h G a w hk hle t)
theorem SemI.ret (hk : K o .ret A h) : SemI R o .ret A h K := fun G w a hle t Q hQ => wpIn_ret (hQ o .ret A h G a w hk hle t)
theorem SemI.exit {id : Nat} (hk : K o (.exit id) A h) : SemI R o (.exit id) A h K := fun G w a hle t Q hQ => wpIn_exit (hQ o (.exit id) A h G a w hk hle t)
theorem SemI.scope {c : Code} (hx : SemI R o c A h K) : SemI R o (.scope c) A h K := by
  intro G w a hle t Q hQ
  refine wpIn_scope (hx G w a hle t _ (fun o' e A' h' G' a' w' hk hle' t' => ?_))
  have hq := hQ o' e A' h' G' a' w' hk hle' t'
  cases e <;> exact hq
/-- a loop by an invariant with a measure -/
theorem SemI.loop {c : Code} (I : Nat → Option Code → List AV → H → Prop)
    (hs : ∀ d o A h, I d o A h → SemI R o c A h (fun o' e A' h' => match e with | .normal => ∃ d', d' < d ∧ I d' o' A' h' | e => K o' e A' h')) {d : Nat} (h0 : I d o A h) : SemI R o (.loop c) A h K := by
  have go : ∀ (f d : Nat), d < f → ∀ (o : Option Code) (A : List AV) (h : H), I d o A h → ∀ (G : Ghost) (w : World) (a : Act), R.G0.Le G → SttI R o G A h w a → ∀ (Q : Exit → Act → World → Prop),
      (∀ o' x A' h' G' a' w', K o' x A' h' → R.G0.Le G' → SttI R o' G' A' h' w' a' → Q x.toExit a' w') → Code.roundsIn (fen none) 0 E.P c Q f a w := by
    intro f
    induction f with
    | zero => intro d hd; omega
    | succ f ih =>
      intro d hd o A h hI G w a hle t Q hQ
      rw [roundsIn_succ]
      refine hs d o A h hI G w a hle t _ (fun o' e A' h' G' a' w' hk hle' t' => ?_)
      cases e with
      | normal =>
        obtain ⟨d', hd', hI'⟩ := hk
        exact ih d' (by omega) o' A' h' hI' G' w' a' hle' t' Q hQ
      | exit id => exact hQ o' (.exit id) A' h' G' a' w' hk hle' t'
      | ret => exact hQ o' .ret A' h' G' a' w' hk hle' t'
  intro G w a hle t Q hQ
  exact wpIn_loop_rounds (d + 1) (go (d + 1) d (Nat.lt_succ_self d) o A h h0 G w a hle t Q hQ)

/-- a region's operations from the k-th on -/
def OpsI (R : Rx E) (ops : Array Oper) (o : Option Code) (l : List Oper) (A : List AV) (h : H) (K : Option Code → List AV → H → Prop) : Prop :=
  ∀ (k : Nat), (∀ j, l[j]? = ops[k + j]?) → ∀ (G : Ghost) (w : World) (a : Act), R.G0.Le G → SttI R o G A h w a → ∀ (Q : Exit → Act → World → Prop),
    (∀ o' A' h' G' a' w', K o' A' h' → R.G0.Le G' → SttI R o' G' A' h' w' a' → Q .normal a' w') → wpOpsIn (fen none) 0 E.P ops Q (List.range' k l.length) a w
theorem SemI.region {id : Nat} {ops : Array Oper} (hx : OpsI R ops o ops.toList A h (fun o' A' h' => K o' .normal A' h')) : SemI R o (.region id ops false) A h K := by
  intro G w a hle t Q hQ
  refine wpIn_region ?_
  have := hx 0 (by simp) G w a hle t Q (fun o' A' h' G' a' w' hk => hQ o' .normal A' h' G' a' w' hk)
  rw [← List.range_eq_range', Array.length_toList] at this
  exact this
variable {ops : Array Oper} {l : List Oper} {K1 : Option Code → List AV → H → Prop}
theorem OpsI.nil (hk : K1 o A h) : OpsI R ops o [] A h K1 := fun k _ G w a hle t Q hQ => hQ o A h G a w hk hle t
theorem OpsI.op (hS : SummOk E.P E.S) {p : Oper} (hg : p.guard = none) {v : AV} {h' : H} (he : aop E.P E.S E.β p A h = some (v, h')) (hx : OpsI R ops o l (putA A p.dst v) h' K1) : OpsI R ops o (p :: l) A h K1 := by
  intro k hl G w a hle t Q hQ
  have h0 : ops[k]? = some p := by simpa using (hl 0).symm
  have hl' : ∀ j, l[j]? = ops[k + 1 + j]? := fun j => by have := hl (j + 1); simpa [Nat.add_assoc, Nat.add_comm 1 j] using this
  have hβ' : ∀ γ ∈ G.bases, γ.1 ≤ E.β.nb := by rw [t.ws.st.bases]; exact R.en.bases
  let K0 : Act → World → Prop := fun a' w' => ∃ G', Step G h w G' h' w' ∧ SRel G' h' w' ∧ ARel G' (putA A p.dst v) a'
  have hw : p.wp E.P a w K0 (fun _ _ _ => False) := by
    refine aop_ok hS t.ws.s hβ' t.r he (fun G1 w1 u st1 s1 hv => ?_)
    exact ⟨G1, st1, s1, put_rel (t.r.mono st1.le) hv p.dst⟩
  simp only [List.length_cons, List.range'_succ]
  rw [wpOpsIn_cons]
  unfold wpOpIn
  simp only [h0]
  rw [if_pos (by simp [Region.wanted, hg])]
  have e0 : { a with defers := [] } = a := by rw [← t.bare]
  have := oper_in (a := a) (ds := []) (n := 0) (ro := none) (K := wpOpsIn (fen none) 0 E.P ops Q (List.range' (k + 1) l.length)) (Q := Q) t.bare (fun a' w' hk => by obtain ⟨_, _, _, r⟩ := hk; exact r.defers) (fun a' w' hk => ?_) (fun _ _ _ hq => hq.elim) hw
  · rwa [e0] at this
  · obtain ⟨G1, st1, s1, r1⟩ := hk
    have e1 : { a' with defers := [] } = a' := by rw [← r1.defers]
    rw [e1]
    exact hx (k + 1) hl' G1 w' _ (hle.trans st1.le) (t.region st1 s1 r1) Q hQ
/-- a call of yield -/
theorem OpsI.yield {p : Oper} (hg : p.guard = none) {c : Call} (hop : p.op = .call c) {y : Operand} (hc : c.callee = .value y) (hy : aev A y = .fn (.yield R.l) [] [])
    (hx : ∀ (G : Ghost) (w : World) (args : Array Value), R.G0.Le G → WS (R.ob o) R.Ge R.he R.we G h w → VRels G (c.args.toList.map (aev A)) args.toList → YieldS E.P R.l args w (fun e w' =>
      ∃ b o' G' h', e = .returned (.bool b) ∧ G.Le G' ∧ WS (R.ob o') R.Ge R.he R.we G' h' w' ∧ OpsI R ops o' l (putA A p.dst (.bool b)) h' K1)) : OpsI R ops o (p :: l) A h K1 := by
  intro k hl G w a hle t Q hQ
  have h0 : ops[k]? = some p := by simpa using (hl 0).symm
  have hl' : ∀ j, l[j]? = ops[k + 1 + j]? := fun j => by have := hl (j + 1); simpa [Nat.add_assoc, Nat.add_comm 1 j] using this
  have hyv := aev_rel t.r y
  rw [hy] at hyv
  simp only [VRel, VRels] at hyv
  obtain ⟨fs, cs, hyv, h1, h2⟩ := hyv
  have h1 : fs = #[] := Array.toList_inj.1 (by simpa using h1)
  have h2 : cs = #[] := Array.toList_inj.1 (by simpa using h2)
  subst h1; subst h2
  have hargs := args_map t.r c.args
  obtain ⟨fn, tmps, assign, body, hrun, hround⟩ := hx G w (c.args.map a.eval) hle t.ws hargs
  simp only [List.length_cons, List.range'_succ]
  rw [wpOpsIn_cons]
  unfold wpOpIn
  simp only [h0]
  rw [if_pos (by simp [Region.wanted, hg])]
  have hev : a.eval y = .func (.yield R.l) #[] #[] := hyv
  have hex : (execOp a.eval p).run E.P w = .ok (.round R.l fn tmps assign body) w := by
    simp only [execOp, hop, resolve, hc, hev, Deferred.ofValue, Sem.run_bind, Sem.run_pure, Result.andThen_ok, invoke]
    simpa using hrun
  refine ⟨fun _ _ => trivial, ?_⟩
  rw [show (fen none).round = none from rfl, Oper.semAt_none, hex, Oper.uponIn_round]
  refine ⟨fun hd => by simp [fen, Fence.wide] at hd, hround.mono ?_⟩
  rintro e w' ⟨b, o', G', h', rfl, hle', k', hops⟩
  exact hops (k + 1) hl' G' w' _ (hle.trans hle') ⟨k', by rw [put_defers]; exact t.bare, put_rel (t.r.mono hle') (by simp only [VRel]) p.dst⟩ Q hQ
/-! ### single operations, for iterators' proofs -/
section
variable (hS : SummOk E.P E.S) {d : Nat} {x y : Operand} {ty t : TypeId} {ps : String} {af : Array Edge} {v xv yv : AV}
include hS
theorem o_move (hx : aev A x = v) (hk : OpsI R ops o l (A.set d v) h K1) : OpsI R ops o ({ dst := some d, op := .move x, type := ty, pos := ps, after := af, guard := none } :: l) A h K1 := OpsI.op hS rfl (by simp only [aop, hx]) hk
theorem o_assign (hx : aev A x = v) (hk : OpsI R ops o l (A.set d v) h K1) : OpsI R ops o ({ dst := some d, op := .assign x, type := ty, pos := ps, after := af, guard := none } :: l) A h K1 := OpsI.op hS rfl (by simp only [aop, hx]) hk
theorem o_load {b k : Nat} {cs : List AV} (hx : aev A x = .ptr b k) (hb : h.blk[b]? = some cs) (hl : aLoad E.P t (cs.drop k) = some v) (hk : OpsI R ops o l (A.set d v) h K1) :
    OpsI R ops o ({ dst := some d, op := .load t x, type := ty, pos := ps, after := af, guard := none } :: l) A h K1 := OpsI.op hS rfl (by simp only [aop, hx, H.target, hb, Option.map_some, hl]) hk
theorem o_nil {b k : Nat} (hx : aev A x = .ptr b k) (hk : OpsI R ops o l (A.set d (.ptr b k)) h K1) : OpsI R ops o ({ dst := some d, op := .nilCheck x, type := ty, pos := ps, after := af, guard := none } :: l) A h K1 := OpsI.op hS rfl (by simp only [aop, hx]) hk
theorem o_fa {f : Nat} (hx : aev A x = xv) (hf : aFieldAddr E.P t xv f = some v) (hk : OpsI R ops o l (A.set d v) h K1) :
    OpsI R ops o ({ dst := some d, op := .fieldAddr t x f, type := ty, pos := ps, after := af, guard := none } :: l) A h K1 := OpsI.op hS rfl (by simp only [aop, hx, hf, Option.map_some]) hk
theorem o_ia (hx : aev A x = xv) (hy : aev A y = yv) (hf : aIndexAddr E.P t xv yv = some v) (hk : OpsI R ops o l (A.set d v) h K1) :
    OpsI R ops o ({ dst := some d, op := .indexAddr t x y, type := ty, pos := ps, after := af, guard := none } :: l) A h K1 := OpsI.op hS rfl (by simp only [aop, hx, hy, hf, Option.map_some]) hk
theorem o_bin {op : BinOp} {t' : TypeId} (hx : aev A x = xv) (hy : aev A y = yv) (hf : aBin E.P op t xv yv = some v) (hk : OpsI R ops o l (A.set d v) h K1) :
    OpsI R ops o ({ dst := some d, op := .binOp op t x y t', type := ty, pos := ps, after := af, guard := none } :: l) A h K1 := OpsI.op hS rfl (by simp only [aop, hx, hy, hf, Option.map_some]) hk
theorem o_un {op : UnOp} (hx : aev A x = xv) (hf : aUn op xv = some v) (hk : OpsI R ops o l (A.set d v) h K1) :
    OpsI R ops o ({ dst := some d, op := .unOp op t x, type := ty, pos := ps, after := af, guard := none } :: l) A h K1 := OpsI.op hS rfl (by simp only [aop, hx, hf, Option.map_some]) hk
theorem o_build {parts : Array (Nat × Operand)} {vs : List (Nat × AV)} (hx : (parts.toList.map fun (i, x) => (i, aev A x)) = vs) (hf : aBuild E.P t vs = some v) (hk : OpsI R ops o l (A.set d v) h K1) :
    OpsI R ops o ({ dst := some d, op := .build t parts, type := ty, pos := ps, after := af, guard := none } :: l) A h K1 := OpsI.op hS rfl (by simp only [aop, hx, hf, Option.map_some]) hk
end
theorem aev_tmp {A : List AV} {t : Nat} {v : AV} (h : A[t]? = some v) : aev A (.tmp t) = v := by simp [aev, List.getD_eq_getElem?_getD, h]
theorem set_same {A : List AV} {d n : Nat} {v : AV} (hA : A.length = n) (hd : d < n) : (A.set d v)[d]? = some v := by
  rw [List.getElem?_set_self (by omega)]
theorem set_other {A : List AV} {d k : Nat} {v w : AV} (h : A[k]? = some w) (hd : d ≠ k) : (A.set d v)[k]? = some w := by
  rw [List.getElem?_set_ne hd]; exact h

/-- what a call of yield comes to -/
def Yx (R : Rx E) (n : Nat) (xs : Nat → List AV) (own T : Nat → H → Prop) (Tx : Code → H → Prop) (nx : Nat → H → H) : Prop :=
  ∀ k G h w (args : Array Value), k < n → own k h → T k h → R.G0.Le G → WS (R.ob none) R.Ge R.he R.we G h w → VRels G (xs k) args.toList → YieldS E.P R.l args w (fun e w' =>
        (e = .returned (.bool true) ∧ ∃ G' h', G.Le G' ∧ WS (R.ob none) R.Ge R.he R.we G' h' w' ∧ own k h' ∧ T (k + 1) (nx k h')) ∨
        (e = .returned (.bool false) ∧ ∃ c G' h', G.Le G' ∧ WS (R.ob (some c)) R.Ge R.he R.we G' h' w' ∧ Tx c h'))
theorem YieldS.mono {P : Program} {l : Nat} {args : Array Value} {w : World} {Q Q' : Ending → World → Prop} (h : YieldS P l args w Q) (hQ : ∀ e w', Q e w' → Q' e w') : YieldS P l args w Q' := by
  obtain ⟨fn, tmps, assign, body, h1, h2⟩ := h
  exact ⟨fn, tmps, assign, body, h1, h2.mono hQ⟩
theorem OpsI.yieldAt {n : Nat} {xs : Nat → List AV} {own T : Nat → H → Prop} {Tx : Code → H → Prop} {nx : Nat → H → H} (hY : Yx R n xs own T Tx nx) {p : Oper} (hg : p.guard = none) {c : Call} (hop : p.op = .call c) {y : Operand} (hc : c.callee = .value y)
    (hy : aev A y = .fn (.yield R.l) [] []) (k : Nat) (hk : k < n) (ho : own k h) (hT : T k h) (hx : c.args.toList.map (aev A) = xs k)
    (ht : ∀ h', own k h' → T (k + 1) (nx k h') → OpsI R ops none l (putA A p.dst (.bool true)) h' K1) (hf : ∀ c h', Tx c h' → OpsI R ops (some c) l (putA A p.dst (.bool false)) h' K1) : OpsI R ops none (p :: l) A h K1 := by
  refine OpsI.yield hg hop hc hy (fun G w args hle kw hr => ?_)
  rw [hx] at hr
  refine (hY k G h w args hk ho hT hle kw hr).mono ?_
  rintro e w' (⟨rfl, G', h', h1, h2, h3, h4⟩ | ⟨rfl, c, G', h', h1, h2, h3⟩)
  · exact ⟨true, none, G', h', rfl, h1, h2, ht h' h3 h4⟩
  · exact ⟨false, some c, G', h', rfl, h1, h2, hf c h' h3⟩
/-- an iterator's promise, from what its body comes to -/
theorem iterator_ok {P : Program} {S : Summ} {p : Pures} {β : Base} {gf : Nat} {fn : Func} {c : Code} (hat : P.funcs[gf]? = some fn) (hb : fn.body = some c) (hcall : callable P gf = true) (hres : fn.results = #[])
    {cap : List AV} {h0 h1 : H} {n : Nat} {xs : Nat → List AV} {own : Nat → H → Prop} {nx : Nat → H → H}
    (hs : ∀ (R : Rx ⟨P, S, p, β, 300⟩) (T : Nat → H → Prop) (Tx : Code → H → Prop), Yx R n xs own T Tx nx → T 0 h1 →
      SemI R none c (.fn (.yield R.l) [] [] :: cap ++ List.replicate (fn.ntmps - (cap.length + 1)) .undef) h0 (fun o x _ h => (x = .normal ∨ x = .ret) ∧ match o with | none => T n h | some c => Tx c h)) :
    IterOk P β gf cap h0 h1 n xs own nx := by
  refine ⟨hcall, fun Ge he we en l obs obsX T Tx G0 w0 cs kw hcs hY hT => ?_⟩
  refine callsIn_of_wp_marks hat hb trivial ?_ rfl
  have hl := hcs.length
  let R : Rx ⟨P, S, p, β, 300⟩ := ⟨Ge, he, we, en, fun o => match o with | none => obs | some c => obsX c, l, G0⟩
  refine hs R T Tx (fun k G h w args h1 h2 h3 h4 h5 h6 => hY k G h w args h1 h2 h3 h4 h5 h6) hT G0 w0 _ (.refl _) ⟨kw, rfl, ?_⟩ _ (fun o x A' h' G' a' w' hk hle t => ?_)
  · refine ⟨?_, rfl, kw.gl⟩
    have hsz : (#[Value.func (.yield l) #[] #[]] ++ cs).size = cap.length + 1 := by simp [hl]; omega
    rw [hsz]
    simp only [Array.toList_append, Array.toList_replicate]
    refine VRels.append ?_ (VRels.replicate (undef_rel _) _)
    simp only [List.cons_append, List.nil_append, VRels]
    exact ⟨_, _, rfl, by simp [VRel, VRels, R], hcs⟩
  · obtain ⟨hx, hk⟩ := hk
    have hlv : LeavesInM (fen none) 0 P fn a'.tmps (fun e w' => ∃ v, e = .returned v ∧ ∃ G', G0.Le G' ∧ ((∃ h', WS obs Ge he we G' h' w' ∧ T n h') ∨ (∃ c h', WS (obsX c) Ge he we G' h' w' ∧ Tx c h'))) a'.defers .returning w' := by
      rw [t.bare]
      obtain ⟨u, hu1, hu2⟩ := results_ok t.ws.s t.r (fn := fn) (vs := []) (by rw [hres]; rfl)
      refine ⟨u, hu1, u, rfl, G', hle, ?_⟩
      cases o with
      | none => exact .inl ⟨h', t.ws, hk⟩
      | some c => exact .inr ⟨c, h', t.ws, hk⟩
    rcases hx with rfl | rfl <;> exact hlv
end
end Go.VM
end
section
/- Contracts by the reader over what code comes to. -/
namespace Go.VM
set_option linter.unusedSectionVars false
variable [Inhabited Globs]
section
variable {P : Program}

theorem rests {M : FuncId → Bool} {cs : List (Ctr P)} (hm : P.follows .mixedOrders = true) (hc : Ctrs P M cs) {p : Pures} {β : Base} {n : Nat} : Rests ⟨P, Sof cs, p, β, n⟩ M := ⟨hm, sof_ok cs, _, ctrs_pure hc⟩

theorem Body.run {M : FuncId → Bool} {f : FuncId} {fn : Func} (k : FokM P M f fn) {cs : List (Ctr P)} (hc : Ctrs P M cs) {p : Pures} {β : Base} {n : Nat} {args : List AV} {h : H} {r : AV × H} (hb : Body ⟨P, Sof cs, p, β, n⟩ M fn args h r) (hβ : β = h.base) : CallOk P f args h r.1 r.2 :=
  hb.call k (rests k.mixed hc) hβ

/-- a contract of what is read in the empty heap, and leaves it as it is -/
def sctr {M : FuncId → Bool} {f : FuncId} {fn : Func} (k : FokM P M f fn) {X : Type} (args : X → List AV) (pre : X → Prop) (v : X → AV)
    (det : ∀ x y, args x = args y → pre x → pre y → v x = v y)
    (ha : ∀ x, AV.bnds 0 0 0 ((args x).map AV.wk) = true) (hv : ∀ x, (v x).bnd 0 0 0 = true)
    (run : ∀ x, pre x → ∃ cs p n, Ctrs P M cs ∧ Body ⟨P, Sof cs, p, H.nil.base, n⟩ M fn ((args x).map AV.wk) .nil (v x, .nil)) : PCtr P where
  f := f
  X := X
  args := args
  pre := pre
  v := v
  det := det
  ok x hx := ⟨k.call, fun h => by
    obtain ⟨cs, p, n, hc, hb⟩ := run x hx
    exact (pure_call (hb.run k hc rfl) (ha x) (hv x) h).wk⟩
/-- the same, of what makes slices that are only read later -/
def slctr {M : FuncId → Bool} {f : FuncId} {fn : Func} (k : FokM P M f fn) {X : Type} (args : X → List AV) (pre : X → Prop) (v : X → AV)
    (det : ∀ x y, args x = args y → pre x → pre y → v x = v y)
    (ha : ∀ x, AV.bnds 0 0 0 ((args x).map AV.wk) = true) (hv : ∀ x, (v x).bnd 0 0 0 = true)
    (run : ∀ x, pre x → ∃ cs p n v0 ts, Ctrs P M cs ∧ Body ⟨P, Sof cs, p, H.nil.base, n⟩ M fn ((args x).map AV.wk) .nil (v0, ⟨[], ts, []⟩) ∧ v0.plain = true ∧ v0.wkd = v x) : PCtr P where
  f := f
  X := X
  args := args
  pre := pre
  v := v
  det := det
  ok x hx := ⟨k.call, fun h => by
    obtain ⟨cs, p, n, v0, ts, hc, hb, hp0, hw⟩ := run x hx
    have := (hb.run k hc rfl).drop hp0
    rw [hw] at this
    exact (pure_call this (ha x) (hv x) h).wk⟩
def none1 : FuncId → Bool := fun _ => false
end
end Go.VM
end
section
/- More that the context tells. -/
namespace Go.VM
set_option linter.unusedSectionVars false
variable [Inhabited Globs]
section
variable {P : Program}
theorem told_add {t : TypeId} {k : IntKind} {a b r : Int} (he : k.wrap (a + b) = r) : aBin P .add t (.int k a) (.int k b) = some (.int k r) := by simp [aBin, aIntOp, he]
theorem told_and {t : TypeId} {k : IntKind} {a b r : Int} (he : k.wrap ((BitVec.ofInt k.bits a &&& BitVec.ofInt k.bits b).toNat : Int) = r) : aBin P .and t (.int k a) (.int k b) = some (.int k r) := by
  subst he
  show (if k = k then _ else none) = _
  rw [if_pos rfl]
  rfl
end
end Go.VM
end
section
/- A contract at a small heap holds at every heap that begins so: what lies behind it stays. -/
namespace Go.VM
set_option linter.unusedSectionVars false
variable [Inhabited Globs]
section
variable {P : Program}
/-- blocks that point to one another only -/
def H.closed (h : H) : Prop := h.toks = [] ∧ h.maps = [] ∧ ∀ cs ∈ h.blk, AV.bnds h.blk.length 0 0 cs = true
/-- what is known of the first blocks alone -/
def Ghost.sub (G : Ghost) (nb : Nat) : Ghost := ⟨fun b => if b < nb then G.φ b else none, G.fr, fun _ _ => none, fun _ => none, []⟩
theorem sub_φ {G : Ghost} {nb b c : Nat} (h : (G.sub nb).φ b = some c) : b < nb ∧ G.φ b = some c := by
  simp only [Ghost.sub] at h
  split at h
  · rename_i q; exact ⟨q, h⟩
  · cases h
theorem sub_below (G : Ghost) (nb : Nat) : G.LeBelow nb 0 0 (G.sub nb) := ⟨fun b c hb h => by simp only [Ghost.sub, if_pos hb]; exact h, fun _ _ _ h => h, fun t n x ht => absurd ht (Nat.not_lt_zero _), fun m c hm => absurd hm (Nat.not_lt_zero _)⟩
theorem SRel.sub {G : Ghost} {h : H} {zs : List (List AV)} {ts : List Nat} {ms : List (List (AV × AV))} {w : World} (hc : h.closed) (s : SRel G ⟨h.blk ++ zs, ts, ms⟩ w) : SRel (G.sub h.blk.length) h w where
  dom := ⟨fun b c hq => (sub_φ hq).1, fun _ _ _ hq => (by cases hq), fun _ _ hq => (by cases hq)⟩
  blk b c hq := by
    obtain ⟨h1, h2⟩ := sub_φ hq
    obtain ⟨cs, arr, e, q1, q2, q3⟩ := s.blk b c h2
    have q4 : h.blk[b]? = some cs := by rw [List.getElem?_append_left h1] at q1; exact q1
    exact ⟨cs, arr, e, q4, q2, VRels.below (sub_below G _) _ _ (hc.2.2 cs (List.mem_of_getElem? q4)) q3⟩
  tok t n ht := by rw [hc.1] at ht; cases ht
  map m c hm := by cases hm
  fr := s.fr
  injφ b b' c h1 h2 := s.injφ b b' c (sub_φ h1).2 (sub_φ h2).2
  φfr b c o hq := s.φfr b c o (sub_φ hq).2
  φtk b c t n cap sz hq ht := by rw [hc.1] at ht; cases ht
  tkle t n x hx := by cases hx
  injtk t t' n n' c cap sz cap' sz' h1 := by rw [hc.1] at h1; cases h1
  injmp m m' c h1 := by cases h1
  bases β hβ := by cases hβ
theorem own_sub {G : Ghost} {h : H} {H' : H} {c : Nat} (hc : h.closed) (ho : Own (G.sub h.blk.length) h c) : ∃ b, b < h.blk.length ∧ G.φ b = some c := by
  rcases ho with ⟨b, hb⟩ | ⟨t, n, cap, sz, ht, _⟩ | ⟨m, hm⟩
  · exact ⟨b, sub_φ hb⟩
  · rw [hc.1] at ht; cases ht
  · cases hm

theorem CallOk.frame {f : FuncId} {args : List AV} {h : H} {v : AV} (hc : h.closed) (ha : AV.bnds h.blk.length 0 0 args = true) (hv : v.bnd h.blk.length 0 0 = true) (k : CallOk P f args h v h)
    (zs : List (List AV)) (ts : List Nat) (ms : List (List (AV × AV))) : CallOk P f args ⟨h.blk ++ zs, ts, ms⟩ v ⟨h.blk ++ zs, ts, ms⟩ := by
  intro G w vs s hgl hr
  refine Calls.mono (k (G.sub h.blk.length) w vs (s.sub hc) hgl (VRels.below (sub_below G _) _ _ ha hr)) ?_
  rintro e w' ⟨G', u, rfl, st, s', hvu⟩
  let G2 : Ghost := { G with fr := G'.fr }
  have hle : G.Le G2 := ⟨fun _ _ q => q, fun c o x q => st.le.fr c o x q, fun _ _ _ q => q, fun _ _ q => q⟩
  have hno : ∀ c, (∀ b, b < h.blk.length → G.φ b ≠ some c) → ¬ Own (G.sub h.blk.length) h c := fun c hn ho => by
    obtain ⟨b, h1, h2⟩ := own_sub (H' := h) hc ho
    exact hn b h1 h2
  have hkeep : ∀ c, c < w.heap.size → (∀ b, b < h.blk.length → G.φ b ≠ some c) → w'.heap[c]? = w.heap[c]? := fun c hl hn => st.keep c hl (hno c hn)
  have hfr : ∀ c o x, G'.fr c o = some x → c < w.heap.size → (∀ b, b < h.blk.length → G.φ b ≠ some c) → G.fr c o = some x := fun c o x q hl hn => by
    rcases st.frnew c o x q with q | q | q
    · exact q
    · omega
    · exact absurd q (hno c hn)
  have hbel : G'.LeBelow h.blk.length 0 0 G2 := ⟨fun b c hb q => (sub_φ (st.pend.1 b c q hb)).2, fun _ _ _ q => q, fun t n x ht => absurd ht (Nat.not_lt_zero _), fun m c hm => absurd hm (Nat.not_lt_zero _)⟩
  refine ⟨G2, u, rfl, ?_, ?_, VRel.below hbel _ _ hv hvu⟩
  · refine ⟨hle, st.os, st.tape, st.output, st.size, fun c hl hn => hkeep c hl (fun b _ hb => hn (.inl ⟨b, hb⟩)), fun c ho => .inl ho, rfl, ⟨fun _ _ q _ => q, Nat.le_refl _⟩, fun c o x q => ?_⟩
    rcases st.frnew c o x q with q | q | q
    · exact .inl q
    · exact .inr (.inl q)
    · obtain ⟨b, _, hb⟩ := own_sub (H' := h) hc q
      exact .inr (.inr (.inl ⟨b, hb⟩))
  · refine ⟨⟨s.dom.φ, s.dom.tk, s.dom.mp⟩, ?_, ?_, ?_, s'.fr, s.injφ, ?_, s.φtk, s.tkle, s.injtk, s.injmp, s.bases⟩
    · intro b c hb
      by_cases hlt : b < h.blk.length
      · have hb' : G'.φ b = some c := st.le.φ b c (by simp only [Ghost.sub, if_pos hlt]; exact hb)
        obtain ⟨cs, arr, e, q1, q2, q3⟩ := s'.blk b c hb'
        exact ⟨cs, arr, e, by rw [List.getElem?_append_left hlt]; exact q1, q2, VRels.below hbel _ _ (hc.2.2 cs (List.mem_of_getElem? q1)) q3⟩
      · obtain ⟨cs, arr, e, q1, q2, q3⟩ := s.blk b c hb
        have hl : c < w.heap.size := s.own_lt (.inl ⟨b, hb⟩)
        refine ⟨cs, arr, e, q1, ?_, VRels.mono hle _ _ q3⟩
        rw [hkeep c hl (fun b' hb' hq => by have := s.injφ b b' c hb hq; omega)]; exact q2
    · intro t n ht
      obtain ⟨c, cap, size, cur, e, q1, q2, q3, q4, q5, q6⟩ := s.tok t n ht
      have hl : c < w.heap.size := s.own_lt (.inr (.inl ⟨t, n, cap, size, ht, q1⟩))
      have hn : ∀ b, b < h.blk.length → G.φ b ≠ some c := fun b _ hq => s.φtk b c t n cap size hq ht q1
      exact ⟨c, cap, size, cur, e, q1, by rw [hkeep c hl hn]; exact q2, q3, q4, q5, fun o x hx => q6 o x (hfr c o x hx hl hn)⟩
    · intro m c hm
      have hl : c < w.heap.size := s.own_lt (.inr (.inr ⟨m, hm⟩))
      obtain ⟨M, es, ck, q1, q2, q3⟩ := s.map m c hm
      have hn : ∀ b, b < h.blk.length → G.φ b ≠ some c := fun b _ hq => by
        obtain ⟨cs, arr, e, _, q5, _⟩ := s.blk b c hq
        rw [q2] at q5; cases q5
      exact ⟨M, es, ck, q1, by rw [hkeep c hl hn]; exact q2, q3.mono hle⟩
    · intro b c o hb
      by_cases hlt : b < h.blk.length
      · exact s'.φfr b c o (st.le.φ b c (by simp only [Ghost.sub, if_pos hlt]; exact hb))
      · have hl : c < w.heap.size := s.own_lt (.inl ⟨b, hb⟩)
        cases hq : G2.fr c o with
        | none => rfl
        | some x =>
          have := hfr c o x hq hl (fun b' hb' hq' => by have := s.injφ b b' c hb hq'; omega)
          rw [s.φfr b c o hb] at this; cases this
/-- a contract of what reads the first blocks hp of the heap, and leaves them -/
def fctr {M : FuncId → Bool} {f : FuncId} {fn : Func} (k : FokM P M f fn) (hp : H) {X : Type} (args : X → List AV) (pre : X → Prop) (v : X → AV)
    (det : ∀ x y, args x = args y → pre x → pre y → v x = v y) (hc : hp.closed) (ha : ∀ x, pre x → AV.bnds hp.blk.length 0 0 (args x) = true) (hv : ∀ x, pre x → (v x).bnd hp.blk.length 0 0 = true)
    (run : ∀ x, pre x → ∃ cs p n, Ctrs P M cs ∧ Body ⟨P, Sof cs, p, hp.base, n⟩ M fn (args x) hp (v x, hp)) : Ctr P where
  f := f
  X := X
  args := args
  pre x h := pre x ∧ ∃ zs, h.blk = hp.blk ++ zs
  res x h := (v x, h)
  det x y h e p q := by rw [det x y e p.1 q.1]
  ok x h hp' := by
    obtain ⟨hx, zs, hz⟩ := hp'
    refine ⟨k.call, ?_⟩
    obtain ⟨cs, p, n, hcs, hb⟩ := run x hx
    have := CallOk.frame hc (ha x hx) (hv x hx) (hb.run k hcs rfl) zs h.toks h.maps
    rw [← hz] at this
    exact this
theorem fctr_reads {M : FuncId → Bool} {f : FuncId} {fn : Func} (k : FokM P M f fn) (hp : H) {X : Type} (args : X → List AV) (pre : X → Prop) (v : X → AV)
    (det : ∀ x y, args x = args y → pre x → pre y → v x = v y) (hc : hp.closed) (ha : ∀ x, pre x → AV.bnds hp.blk.length 0 0 (args x) = true) (hv : ∀ x, pre x → (v x).bnd hp.blk.length 0 0 = true)
    (run : ∀ x, pre x → ∃ cs p n, Ctrs P M cs ∧ Body ⟨P, Sof cs, p, hp.base, n⟩ M fn (args x) hp (v x, hp)) : (fctr k hp args pre v det hc ha hv run).Reads :=
  ⟨fun _ _ _ => rfl, fun x h zs hx => ⟨⟨hx.1, by
    obtain ⟨_, z1, hz⟩ := hx
    exact ⟨z1 ++ zs, by show h.blk ++ zs = _; rw [hz, List.append_assoc]⟩⟩, rfl⟩⟩
/-! ### a table of calls at single heaps, for regions that are run in all their orders -/
structure TRow (P : Program) where
  f : FuncId
  args : List AV
  h : H
  v : AV
  h' : H
  ok : callable P f = true ∧ CallOk P f args h v h'
def tabS : List (TRow P) → Summ
  | [], _, _, _ => none
  | r :: rs, f, args, h => if f == r.f && AV.beqs args r.args && H.beq h r.h then some (r.v, r.h') else tabS rs f args h
theorem tab_ok : ∀ rs : List (TRow P), SummOk P (tabS rs)
  | [], f, args, h, v, h', he => by cases he
  | r :: rs, f, args, h, v, h', he => by
    simp only [tabS] at he
    split at he
    · rename_i hq
      simp only [Bool.and_eq_true, beq_iff_eq] at hq
      obtain ⟨⟨rfl, h2⟩, h3⟩ := hq
      have h2 := AV.beqs_eq _ _ h2
      have h3 := H.beq_eq h3
      subst h2; subst h3
      simp only [Option.some.injEq, Prod.mk.injEq] at he
      obtain ⟨rfl, rfl⟩ := he
      exact r.ok
    · exact tab_ok rs f args h v h' he
end
end Go.VM
end
section
/- Slices of one-cell values, whatever they are: words, bools; written slices. -/
namespace Go.VM
set_option linter.unusedSectionVars false
variable [Inhabited Globs]

/-- a value that is one plain cell -/
def AV.cell1 : AV → Bool
  | .int _ _ | .bool _ => true
  | _ => false
section
variable {α : Type} {f : α → AV}
theorem enc_bnds (hf : ∀ x, (f x).cell1 = true) (l : List α) (a b c : Nat) : AV.bnds a b c (l.map f) = true := by
  rw [AV.bnds_iff]; intro x hx; simp at hx; obtain ⟨n, _, rfl⟩ := hx
  have := hf n; cases hq : f n <;> simp [hq, AV.cell1] at this <;> simp [AV.bnd]
theorem enc_frz (hf : ∀ x, (f x).cell1 = true) (l : List α) (a b : Nat) (h : H) (k : Nat) : (l.map f).map (frz a b h (k + 1)) = l.map f := by
  simp only [List.map_map]
  apply List.map_congr_left; intro x _
  have := hf x; simp only [Function.comp_apply]; cases hq : f x <;> simp [hq, AV.cell1] at this <;> simp [frz]
theorem enc_wkds (hf : ∀ x, (f x).cell1 = true) : ∀ l : List α, AV.wkds (l.map f) = l.map f
  | [] => rfl
  | x :: l => by
    have := hf x
    simp only [List.map_cons, AV.wkds, enc_wkds hf l]
    cases hq : f x <;> simp [hq, AV.cell1] at this <;> simp [AV.wkd]
theorem enc_plains (hf : ∀ x, (f x).cell1 = true) : ∀ l : List α, AV.plains (l.map f) = true
  | [] => rfl
  | x :: l => by
    have := hf x
    simp only [List.map_cons, AV.plains, enc_plains hf l]
    cases hq : f x <;> simp [hq, AV.cell1] at this <;> simp [AV.plain]
theorem enc_inj (hi : ∀ x y, f x = f y → x = y) : ∀ {l m : List α}, l.map f = m.map f → l = m
  | [], [], _ => rfl
  | [], y :: m, h => by simp at h
  | x :: l, [], h => by simp at h
  | x :: l, y :: m, h => by
    simp only [List.map_cons, List.cons.injEq] at h
    rw [hi _ _ h.1, enc_inj hi h.2]
variable {P : Program}
theorem ld_map {t : TypeId} (hu : (P.underlying t).isSome = true) (ha : isAggT P t = false) {l : List α} {i : Nat} (d : α) (h : i < l.length) :
    aLoad P t ((l.drop i).map f) = some (f (l.getD i d)) := by
  cases hq : P.underlying t with
  | none => rw [hq] at hu; cases hu
  | some u => simp [aLoad, hq, ha, h]
theorem ldm_map {t : TypeId} (hu : (P.underlying t).isSome = true) (ha : isAggT P t = false) {l : List α} {i : Nat} (d : α) (h : i < l.length) :
    aLoad P t ((l.map f).drop i) = some (f (l.getD i d)) := by
  rw [← List.map_drop]; exact ld_map hu ha d h
theorem leave_map (hf : ∀ x, (f x).cell1 = true) (l : List α) : leave ⟨0, 0, 0⟩ (.sl (l.map f) l.length (rm 0 l)) ⟨[], tk l, []⟩ = (.sl (l.map f) l.length (rm 0 l), ⟨[], tk l, []⟩) := by
  cases l with
  | nil => rfl
  | cons x l =>
    have hz := enc_frz hf (x :: l) 0 0 ⟨[], [(x :: l).length], []⟩ 4
    have hb := enc_bnds hf (x :: l) 0 0 0
    generalize hL : (x :: l).map f = m at hz hb ⊢
    simp only [rm, tk]
    generalize (x :: l).length = n at hz ⊢
    simp only [leave, AV.bnd, Room.bnd, hb]
    simp only [frz, hz]
    simp [AV.bnd, hb, Room.bnd, retok]
end
/-- words -/
abbrev u64A (b : BitVec 64) : AV := .int .u64 (b.toNat : Int)
abbrev w0 : BitVec 64 := 0#64
def u64s (l : List (BitVec 64)) : List AV := l.map u64A
def boolA (b : Bool) : AV := .bool b
abbrev b0 : Bool := false
def bools (l : List Bool) : List AV := l.map boolA
theorem u64A_c1 : ∀ x, (u64A x).cell1 = true := fun _ => rfl
theorem boolA_c1 : ∀ x, (boolA x).cell1 = true := fun _ => rfl
theorem ints_c1 : ∀ x, (I x).cell1 = true := fun _ => rfl
theorem u64A_inj (x y : BitVec 64) (h : u64A x = u64A y) : x = y := by
  simp only [u64A, AV.int.injEq, true_and] at h
  exact BitVec.eq_of_toNat_eq (by omega)
@[simp] theorem u64s_eq {l m : List (BitVec 64)} : u64s l = u64s m ↔ l = m := ⟨enc_inj u64A_inj, fun h => by rw [h]⟩
@[simp] theorem bools_eq {l m : List Bool} : bools l = bools m ↔ l = m := ⟨enc_inj (fun x y h => by simpa [boolA] using h), fun h => by rw [h]⟩
@[simp] theorem u64s_bnds (l : List (BitVec 64)) (a b c : Nat) : AV.bnds a b c (u64s l) = true := enc_bnds u64A_c1 l a b c
@[simp] theorem bools_bnds (l : List Bool) (a b c : Nat) : AV.bnds a b c (bools l) = true := enc_bnds boolA_c1 l a b c
@[simp] theorem u64s_len (l : List (BitVec 64)) : (u64s l).length = l.length := by simp [u64s]
@[simp] theorem bools_len (l : List Bool) : (bools l).length = l.length := by simp [bools]
@[simp] theorem u64s_frz (l : List (BitVec 64)) (a b : Nat) (h : H) (k : Nat) : (u64s l).map (frz a b h (k + 1)) = u64s l := enc_frz u64A_c1 l a b h k
@[simp] theorem bools_frz (l : List Bool) (a b : Nat) (h : H) (k : Nat) : (bools l).map (frz a b h (k + 1)) = bools l := enc_frz boolA_c1 l a b h k
@[simp] theorem wkds_u64s (l : List (BitVec 64)) : AV.wkds (u64s l) = u64s l := enc_wkds u64A_c1 l
@[simp] theorem plains_u64s (l : List (BitVec 64)) : AV.plains (u64s l) = true := enc_plains u64A_c1 l
section
variable {P : Program} {t : TypeId}
theorem ldm_ints (hu : (P.underlying t).isSome = true) (ha : isAggT P t = false) {l : List (Int)} {i : Nat} (h : i < l.length) :
    aLoad P t ((ints l).drop i) = some (I (l.getD i i0)) := ldm_map hu ha i0 h
theorem leave_intsa (l : List (Int)) : leave ⟨0, 0, 0⟩ (.sl (ints l) l.length (rm 0 l)) ⟨[], tk l, []⟩ = (.sl (ints l) l.length (rm 0 l), ⟨[], tk l, []⟩) := leave_map ints_c1 l
end
end Go.VM
end
