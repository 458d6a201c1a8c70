/- Every abstract operation is right. -/
import Derived.Test.YtbadfaiepgfpdaaVmI4
namespace Go.VM

def callable (P : Program) (f : FuncId) : Bool :=
  match P.funcs[f]? with
  | some fn => !(fn.name == "runtime.NumGoroutine") && fn.body.isSome
  | none => false

/-- a call that comes to one value and one heap -/
def CallOk (P : Program) (f : FuncId) (args : List AV) (h : H) (v : AV) (h' : H) : Prop :=
  ∀ G w (vs : List Value), SRel G h w → VRels G args vs →
    Calls P f vs.toArray w (fun e w' => ∃ G' u, e = .returned u ∧ Step G h w G' h' w' ∧ SRel G' h' w' ∧ VRel G' v u)

def SummOk (P : Program) (S : Summ) : Prop := ∀ f args h v h', S f args h = some (v, h') → callable P f = true ∧ CallOk P f args h v h'

section
variable {P : Program} {G : Ghost} {h : H} {w : World}

theorem callFunc_run {f : FuncId} (hc : callable P f = true) (args : Array Value) : (callFunc f args).run P w = .ok (.enter f args) w := by
  unfold callable at hc
  split at hc
  · rename_i fn hfn
    simp only [Bool.and_eq_true, Bool.not_eq_true', beq_eq_false_iff_ne] at hc
    have hn : (fn.name == "runtime.NumGoroutine") = false := by simpa using hc.1
    have hb : fn.body.isNone = false := by cases hq : fn.body <;> simp_all
    simp only [callFunc, Sem.run_bind, run_program, Result.andThen_ok, hfn, hn, Bool.false_eq_true, if_false, hb, Sem.run_pure]
  · cases hc

theorem wp_value {o : Oper} {a : Act} {K : Act → World → Prop} {Q : Exit → Act → World → Prop} {u : Value} {w' : World} (hr : (execOp a.eval o).run P w = .ok (.value u) w') (hK : K (a.put o.dst u) w') : o.wp P a w K Q := by
  unfold Oper.wp; rw [hr]; exact hK
theorem wp_skip' {o : Oper} {a : Act} {K : Act → World → Prop} {Q : Exit → Act → World → Prop} {w' : World} (hr : (execOp a.eval o).run P w = .ok .skip w') (hK : K (a.put o.dst undef) w') : o.wp P a w K Q := by
  unfold Oper.wp; rw [hr]; exact hK

theorem undef_rel (G : Ghost) : VRel G .undef undef := by simp [VRel, VRels, undef, AV.undef]

theorem args_map {A : List AV} {a : Act} (r : ARel G A a) (xs : Array Operand) : VRels G (xs.toList.map (aev A)) (xs.map a.eval).toList := by
  rw [Array.toList_map]; exact rels_map r _

theorem aop_ok {S : Summ} (hS : SummOk P S) {β : Base} (s : SRel G h w) (hβ : ∀ γ ∈ G.bases, γ.1 ≤ β.nb) {A : List AV} {a : Act} (r : ARel G A a) {o : Oper} {v : AV} {h' : H} (he : aop P S β o A h = some (v, h'))
    {K : Act → World → Prop} {Q : Exit → Act → World → Prop} (hK : ∀ G' w' u, Step G h w G' h' w' → SRel G' h' w' → VRel G' v u → K (a.put o.dst u) w') : o.wp P a w K Q := by
  -- the three ways in which an operation ends
  have quiet : ∀ {x : Sem Value} {u : Value}, execOp a.eval o = (do pure (.value (← x))) → x.run P w = .ok u w → VRel G v u → h' = h → o.wp P a w K Q := fun {x u} e hr hv hh => by
    subst hh
    exact wp_value (u := u) (w' := w) (by rw [e]; simp [hr]) (hK G w u (.refl _ _ _) s hv)
  have ran : ∀ {x : Sem Value}, execOp a.eval o = (do pure (.value (← x))) → RunOk P G h w x v h' → o.wp P a w K Q := fun {x} e hr => by
    obtain ⟨u, w', G', h1, h2, h3, h4⟩ := hr
    exact wp_value (u := u) (w' := w') (by rw [e]; simp [h1]) (hK G' w' u h2 h3 h4)
  have wrote : ∀ {x : Sem Unit}, execOp a.eval o = (do x; pure .skip) → (∃ w', x.run P w = .ok () w' ∧ Step G h w G h' w' ∧ SRel G h' w') → v = .undef → o.wp P a w K Q := fun {x} e hr hv => by
    obtain ⟨w', h1, h2, h3⟩ := hr
    subst hv
    exact wp_skip' (w' := w') (by rw [e]; simp [h1]) (hK G w' undef h2 h3 (undef_rel G))
  cases hop : o.op <;> simp only [aop, hop, reduceCtorEq] at he
  case move x =>
    simp only [Option.some.injEq, Prod.mk.injEq] at he; obtain ⟨rfl, rfl⟩ := he
    exact wp_value (u := a.eval x) (w' := w) (by simp [execOp, hop]) (hK G w _ (.refl _ _ _) s (aev_rel r x))
  case assign x =>
    simp only [Option.some.injEq, Prod.mk.injEq] at he; obtain ⟨rfl, rfl⟩ := he
    exact wp_value (u := a.eval x) (w' := w) (by simp [execOp, hop]) (hK G w _ (.refl _ _ _) s (aev_rel r x))
  case pick c x y =>
    have hc := aev_rel r c
    split at he
    · rename_i t ht
      rw [ht] at hc; simp only [VRel] at hc
      simp only [Option.some.injEq, Prod.mk.injEq] at he; obtain ⟨rfl, rfl⟩ := he
      refine wp_value (u := if t then a.eval x else a.eval y) (w' := w) ?_ (hK G w _ (.refl _ _ _) s ?_)
      · simp [execOp, hop, hc, asBool]
      · cases t
        · simpa using aev_rel r y
        · simpa using aev_rel r x
    · cases he
  case alloc e =>
    rw [Option.map_eq_some_iff] at he
    obtain ⟨z, hz, he⟩ := he
    simp only [Prod.mk.injEq] at he; obtain ⟨rfl, rfl⟩ := he
    exact ran (by simp only [execOp, hop]) (alloc_ok s hz)
  case box e x =>
    rw [Option.map_eq_some_iff] at he
    obtain ⟨z, hz, he⟩ := he
    simp only [Prod.mk.injEq] at he; obtain ⟨rfl, rfl⟩ := he
    exact ran (x := Instr.box e (a.eval x)) (by simp only [execOp, hop]) (box_ok s (aev_rel r x) hz)
  case build t parts =>
    rw [Option.map_eq_some_iff] at he
    obtain ⟨z, hz, he⟩ := he
    simp only [Prod.mk.injEq] at he; obtain ⟨rfl, rfl⟩ := he
    obtain ⟨u, h1, h2⟩ := build_ok (w := w) r hz
    exact quiet (by simp only [execOp, hop]) h1 h2 rfl
  case buildSlice t len parts =>
    rw [Option.map_eq_some_iff] at he
    obtain ⟨z, hz, he⟩ := he
    simp only [Prod.mk.injEq] at he; obtain ⟨rfl, rfl⟩ := he
    exact ran (by simp only [execOp, hop]) (buildSlice_ok s r hz)
  case load t x =>
    split at he
    · rename_i cs hcs
      rw [Option.map_eq_some_iff] at he
      obtain ⟨z, hz, he⟩ := he
      simp only [Prod.mk.injEq] at he; obtain ⟨rfl, rfl⟩ := he
      exact ran (by simp only [execOp, hop]) (load_ok s (aev_rel r x) hcs hz)
    · cases he
  case store t p x =>
    rw [Option.map_eq_some_iff] at he
    obtain ⟨z, hz, he⟩ := he
    simp only [Prod.mk.injEq] at he; obtain ⟨rfl, rfl⟩ := he
    exact wrote (by simp only [execOp, hop]) (store_ok s hβ (aev_rel r p) (aev_rel r x) hz) rfl
  case nilCheck x =>
    have hx := aev_rel r x
    split at he
    · rename_i b k hb
      rw [hb] at hx
      simp only [Option.some.injEq, Prod.mk.injEq] at he; obtain ⟨rfl, rfl⟩ := he
      have hx' := hx
      simp only [VRel] at hx'
      obtain ⟨c, _, e⟩ := hx'
      exact wp_value (u := a.eval x) (w' := w) (by simp [execOp, hop, e]) (hK G w _ (.refl _ _ _) s hx)
    · rename_i cs hb
      rw [hb] at hx
      simp only [Option.some.injEq, Prod.mk.injEq] at he; obtain ⟨rfl, rfl⟩ := he
      have hx' := hx
      simp only [VRel] at hx'
      obtain ⟨c, o', vs, e, _⟩ := hx'
      exact wp_value (u := a.eval x) (w' := w) (by simp [execOp, hop, e]) (hK G w _ (.refl _ _ _) s hx)
    · cases he
  case binOp op t x y ty =>
    rw [Option.map_eq_some_iff] at he
    obtain ⟨z, hz, he⟩ := he
    simp only [Prod.mk.injEq] at he; obtain ⟨rfl, rfl⟩ := he
    obtain ⟨u, h1, h2⟩ := bin_ok (w := w) hz (aev_rel r x) (aev_rel r y) x y
    exact quiet (by simp only [execOp, hop]) h1 h2 rfl
  case unOp op t x =>
    rw [Option.map_eq_some_iff] at he
    obtain ⟨z, hz, he⟩ := he
    simp only [Prod.mk.injEq] at he; obtain ⟨rfl, rfl⟩ := he
    obtain ⟨u, h1, h2⟩ := un_ok (P := P) (w := w) hz (aev_rel r x)
    exact quiet (by simp only [execOp, hop]) h1 h2 rfl
  case convert t t' x =>
    rw [Option.map_eq_some_iff] at he
    obtain ⟨z, hz, he⟩ := he
    simp only [Prod.mk.injEq] at he; obtain ⟨rfl, rfl⟩ := he
    obtain ⟨u, h1, h2⟩ := convert_ok (w := w) hz (aev_rel r x)
    exact quiet (by simp only [execOp, hop]) h1 h2 rfl
  case makeMap t x =>
    split at he
    · rename_i p i hp hi
      simp only [Option.some.injEq, Prod.mk.injEq] at he; obtain ⟨rfl, rfl⟩ := he
      exact ran (x := Instr.makeMap t (x.map a.eval)) (by simp only [execOp, hop]) (makeMap_ok s r (by rw [hp]; rfl) hi)
    · cases he
  case makeSlice t l c =>
    have hl := aev_rel r l
    have hc := aev_rel r c
    split at he
    · rename_i nl nc e1 e2
      rw [e1] at hl; rw [e2] at hc
      simp only [VRel] at hl hc
      exact ran (by simp only [execOp, hop, hl, hc]) (make_ok s he)
    · cases he
  case slice t x lo hi mx =>
    rw [Option.map_eq_some_iff] at he
    obtain ⟨z, hz, he⟩ := he
    simp only [Prod.mk.injEq] at he; obtain ⟨rfl, rfl⟩ := he
    obtain ⟨u, h1, h2⟩ := slice_ok (w := w) hz (aev_rel r x) (opt_rel r lo) (opt_rel r hi) (opt_rel r mx)
    exact quiet (by simp only [execOp, hop]) h1 h2 rfl
  case fieldAddr t x f =>
    rw [Option.map_eq_some_iff] at he
    obtain ⟨z, hz, he⟩ := he
    simp only [Prod.mk.injEq] at he; obtain ⟨rfl, rfl⟩ := he
    obtain ⟨u, h1, h2⟩ := fieldAddr_ok (w := w) hz (aev_rel r x)
    exact quiet (by simp only [execOp, hop]) h1 h2 rfl
  case field t x f =>
    rw [Option.map_eq_some_iff] at he
    obtain ⟨z, hz, he⟩ := he
    simp only [Prod.mk.injEq] at he; obtain ⟨rfl, rfl⟩ := he
    obtain ⟨u, h1, h2⟩ := field_ok (w := w) hz (aev_rel r x)
    exact quiet (by simp only [execOp, hop]) h1 h2 rfl
  case indexAddr t x ix =>
    rw [Option.map_eq_some_iff] at he
    obtain ⟨z, hz, he⟩ := he
    simp only [Prod.mk.injEq] at he; obtain ⟨rfl, rfl⟩ := he
    obtain ⟨u, h1, h2⟩ := indexAddr_ok (w := w) hz (aev_rel r x) (aev_rel r ix)
    exact quiet (by simp only [execOp, hop]) h1 h2 rfl
  case index t x ix =>
    rw [Option.map_eq_some_iff] at he
    obtain ⟨z, hz, he⟩ := he
    simp only [Prod.mk.injEq] at he; obtain ⟨rfl, rfl⟩ := he
    obtain ⟨u, h1, h2⟩ := index_ok (w := w) hz (aev_rel r x) (aev_rel r ix)
    exact quiet (by simp only [execOp, hop]) h1 h2 rfl
  case lookup t x ix ok =>
    rw [Option.map_eq_some_iff] at he
    obtain ⟨z, hz, he⟩ := he
    simp only [Prod.mk.injEq] at he; obtain ⟨rfl, rfl⟩ := he
    obtain ⟨u, h1, h2⟩ := lookup_ok s hz (aev_rel r x) (aev_rel r ix)
    exact quiet (by simp only [execOp, hop]) h1 h2 rfl
  case mapUpdate t m k x =>
    rw [Option.map_eq_some_iff] at he
    obtain ⟨z, hz, he⟩ := he
    simp only [Prod.mk.injEq] at he; obtain ⟨rfl, rfl⟩ := he
    exact wrote (by simp only [execOp, hop]) (mapUpdate_ok s hz (aev_rel r m) (aev_rel r k) (aev_rel r x)) rfl
  case insert t m k x =>
    rw [Option.map_eq_some_iff] at he
    obtain ⟨z, hz, he⟩ := he
    simp only [Prod.mk.injEq] at he; obtain ⟨rfl, rfl⟩ := he
    exact wrote (by simp only [execOp, hop]) (mapUpdate_ok s hz (aev_rel r m) (aev_rel r k) (aev_rel r x)) rfl
  case extract t i =>
    have ht := aev_rel r t
    split at he
    · rename_i vs hvs
      rw [hvs] at ht; simp only [VRel] at ht
      obtain ⟨us, hus, hrel⟩ := ht
      rw [Option.map_eq_some_iff] at he
      obtain ⟨z, hz, he⟩ := he
      simp only [Prod.mk.injEq] at he; obtain ⟨rfl, rfl⟩ := he
      obtain ⟨u, h1, h2⟩ := hrel.get i z hz
      have h1' : us[i]? = some u := by simpa using h1
      exact quiet (x := Instr.extract (a.eval t) i) (u := u) (by simp only [execOp, hop]) (by rw [hus]; simp [Instr.extract, h1']) h2 rfl
    · cases he
  case makeFunc f fs cs =>
    simp only [Option.some.injEq, Prod.mk.injEq] at he; obtain ⟨rfl, rfl⟩ := he
    exact quiet (x := Instr.makeFunc f (fs.map a.eval) (cs.map a.eval)) (u := .func f (fs.map a.eval) (cs.map a.eval)) (by simp only [execOp, hop]) (by simp [Instr.makeFunc])
      (by simp only [VRel]; exact ⟨_, _, rfl, args_map r fs, args_map r cs⟩) rfl
  case call c =>
    split at he
    · rename_i f hcal
      have hf := aev_rel r f
      unfold aCall at he
      split at he
      · rename_i i first cap hfn
        rw [hfn] at hf
        simp only [VRel] at hf
        obtain ⟨fs, cs, hfv, hr1, hr2⟩ := hf
        obtain ⟨hc, hcall⟩ := hS _ _ _ _ _ he
        have hargs : VRels G (first ++ c.args.toList.map (aev A) ++ cap) (fs ++ c.args.map a.eval ++ cs).toList := by
          simp only [Array.toList_append]
          exact (hr1.append (args_map r c.args)).append hr2
        have hrun : (execOp a.eval o).run P w = .ok (.enter i (fs ++ c.args.map a.eval ++ cs)) w := by
          simp only [execOp, hop, resolve, hcal, hfv, Deferred.ofValue, Sem.run_bind, Sem.run_pure, Result.andThen_ok, invoke]
          exact callFunc_run hc _
        unfold Oper.wp; rw [hrun, Oper.upon_enter]
        have := hcall G w _ s hargs
        rw [Array.toArray_toList] at this
        refine Calls.mono this ?_
        rintro e w' ⟨G', u, rfl, h1, h2, h3⟩
        exact hK G' w' u h1 h2 h3
      · cases he
    · rename_i b hcal
      have hbase : ∀ {x : Sem Value}, (∀ consts, builtin b c.argTypes o.type consts (c.args.map a.eval) = (do pure (.value (← x)))) → execOp a.eval o = (do pure (.value (← x))) := fun {x} hb => by
        simp only [execOp, hop, resolve, hcal]
        simp only [pure_bind, invoke, hb]
      have hxs := args_map r c.args
      split at he
      · rename_i x t ts hargs hts
        rw [hargs] at hxs
        obtain ⟨u, hu, hrel⟩ := rels_one' hxs
        have hu' : c.args.map a.eval = #[u] := by apply Array.ext'; simpa using hu
        rw [Option.map_eq_some_iff] at he
        obtain ⟨z, hz, he⟩ := he
        simp only [Prod.mk.injEq] at he; obtain ⟨rfl, rfl⟩ := he
        obtain ⟨u', h1, h2⟩ := len_ok s hz hrel c.argTypes (by rw [← Array.getElem?_toList, hts]; rfl) o.type
        exact quiet (hbase (x := Builtin.len_ c.argTypes o.type #[u]) (fun consts => by rw [hu']; rfl)) h1 h2 rfl
      · rw [Option.map_eq_some_iff] at he
        obtain ⟨z, hz, he⟩ := he
        simp only [Prod.mk.injEq] at he; obtain ⟨rfl, rfl⟩ := he
        obtain ⟨u', h1, h2⟩ := min_ok (P := P) (w := w) false hz hxs c.argTypes o.type
        simp only [Bool.false_eq_true, if_false, Array.toArray_toList] at h1
        exact quiet (hbase (x := Builtin.min_ c.argTypes o.type (c.args.map a.eval)) (fun consts => rfl)) h1 h2 rfl
      · rw [Option.map_eq_some_iff] at he
        obtain ⟨z, hz, he⟩ := he
        simp only [Prod.mk.injEq] at he; obtain ⟨rfl, rfl⟩ := he
        obtain ⟨u', h1, h2⟩ := min_ok (P := P) (w := w) true hz hxs c.argTypes o.type
        simp only [if_true, Array.toArray_toList] at h1
        exact quiet (hbase (x := Builtin.max_ c.argTypes o.type (c.args.map a.eval)) (fun consts => rfl)) h1 h2 rfl
      · rename_i x y t t' hargs hts
        rw [hargs] at hxs
        simp only [VRels] at hxs
        obtain ⟨ux, _, hu, hrx, uy, _, rfl, hry, rfl⟩ := hxs
        have hu' : c.args.map a.eval = #[ux, uy] := by apply Array.ext'; simpa using hu
        have ht' : c.argTypes = #[t, t'] := by apply Array.ext'; simpa using hts
        exact ran (hbase (x := Builtin.append_ #[t, t'] o.type #[ux, uy]) (fun consts => by rw [hu', ht']; rfl)) (append_ok s he hrx hry)
      · cases he
    · cases he
end
end Go.VM
