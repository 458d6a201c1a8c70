/- Own texts on reading the model, joined: VmQ, VmU, VmR. -/
import Derived.Test.YtdnidpojcocklaaDoorVm2
import Derived.Below
import Derived.ChangeSame
set_option linter.unusedSimpArgs false
set_option linter.unusedVariables false
set_option linter.unnecessarySimpa false
section
/- From the reader to a row's own words. -/
namespace Go.VM
set_option linter.unusedSectionVars false
variable [Inhabited Globs]
open Go.RowKit

def Ghost.nil : Ghost := ⟨fun _ => none, fun _ _ => none, fun _ _ => none, fun _ => none, []⟩

/-- known cells of the world, from the first -/
def Ghost.ofCells (fr : Nat → Nat → Option Value) : Ghost := ⟨fun _ => none, fr, fun _ _ => none, fun _ => none, []⟩
theorem srel_cells {fr : Nat → Nat → Option Value} {w : World} (hf : ∀ c o v, fr c o = some v → w.cell? ⟨c, o, none⟩ = some v) : SRel (.ofCells fr) .nil w := by
  constructor
  case dom => exact ⟨(by intro _ _ h; cases h), (by intro _ _ _ h; cases h), (by intro _ _ h; cases h)⟩
  case fr => exact hf
  case blk => intro _ _ h; cases h
  case tok => intro t n ht; simp [H.nil] at ht
  case map => intro _ _ h; cases h
  case injφ => intro _ _ _ _ h; cases h
  case φfr => intro _ _ _ h; cases h
  case φtk => intro _ _ _ _ _ _ h; cases h
  case tkle => intro _ _ _ h; cases h
  case injtk => intro t t' n n' c cap sz cap' sz' ht; simp [H.nil] at ht
  case injmp => intro _ _ _ h; cases h
  case bases => intro _ h; cases h

theorem below_of_step {fr : Nat → Nat → Option Value} {w w' : World} {G' : Ghost} {h' : H} (st : Step (.ofCells fr) .nil w G' h' w') : Below w.heap.size w w' :=
  ⟨st.os, st.tape, st.output, st.size, fun k hk => st.keep k hk (fun ho => by
    rcases ho with ⟨b, sb, hb, _⟩ | ⟨t, n, cap, sz, ht, _⟩ | ⟨m, hm⟩
    · cases hb
    · simp [H.nil] at ht
    · cases hm)⟩

section
variable {P : Program}

/-- a call from outside, over known cells -/
theorem top_call {f : FuncId} {args : List AV} {v : AV} {h' : H} (hc : CallOk P f args .nil v h') {fr : Nat → Nat → Option Value} {w : World} (hf : ∀ c o v, fr c o = some v → w.cell? ⟨c, o, none⟩ = some v) (hg : GlobOk (.ofCells fr)) {vs : List Value} (hr : VRels (.ofCells fr) args vs) :
    Calls P f vs.toArray w (fun e w' => (∃ G' u, e = .returned u ∧ VRel G' v u) ∧ Below w.heap.size w w') :=
  (hc _ w vs (srel_cells hf) hg hr).mono fun _ _ ⟨G', u, he, st, _, hv⟩ => ⟨⟨G', u, he, hv⟩, below_of_step st⟩

theorem top_bool {f : FuncId} {args : List AV} {b : Bool} {h' : H} (hc : CallOk P f args .nil (.bool b) h') {fr : Nat → Nat → Option Value} {w : World} (hf : ∀ c o v, fr c o = some v → w.cell? ⟨c, o, none⟩ = some v) (hg : GlobOk (.ofCells fr)) {vs : List Value} (hr : VRels (.ofCells fr) args vs) :
    Calls P f vs.toArray w (fun e w' => e = .returned (.bool b) ∧ Below w.heap.size w w') :=
  (top_call hc hf hg hr).mono fun _ _ ⟨⟨G', u, he, hv⟩, hb⟩ => ⟨by simp only [VRel] at hv; rw [he, hv], hb⟩

end
end Go.VM
namespace Go.VM
set_option linter.unusedSectionVars false
variable [Inhabited Globs]
theorem w64 (x : Int) (h1 : -9223372036854775808 ≤ x) (h2 : x ≤ 9223372036854775807) : IntKind.i64.wrap x = x := by
  simp only [IntKind.wrap, IntKind.bits, IntKind.signed]; simp; omega

/-- a loop, not opened -/
def loopx (P : Program) (S : Summ) (D : Base → Draws) (β : Base) (n : Nat) (c : Code) (A : List AV) (h : H) : Option (AX × List AV × H) := iter (exec P S D β n c) n A h
section
variable {P : Program} {S : Summ} {D : Base → Draws} {β : Base} {n : Nat} {A : List AV} {h : H}
@[simp] theorem exec_skip : exec P S D β n .skip A h = some (.normal, A, h) := rfl
@[simp] theorem exec_label {l : Nat} : exec P S D β n (.label l) A h = some (.normal, A, h) := rfl
@[simp] theorem exec_region {id : Nat} {ops : Array Oper} : exec P S D β n (.region id ops false) A h = (match arun P S β ops ops.toList A h with | some (A, h) => some (.normal, A, h) | none => none) := by
  simp only [exec]; cases arun P S β ops ops.toList A h <;> rfl
@[simp] theorem exec_draw {p : Pures} {id : Nat} {ops : Array Oper} : exec P S (Darun P p) β n (.region id ops true) A h = (match arun P (pureS p) β ops ops.toList A h with | some (A, h) => some (.normal, A, h) | none => none) := by
  simp only [exec, Darun]; cases arun P (pureS p) β ops ops.toList A h <;> rfl
@[simp] theorem exec_seq {x y : Code} : exec P S D β n (.seq x y) A h = (match exec P S D β n x A h with | some (.normal, A', h') => exec P S D β n y A' h' | r => r) := rfl
@[simp] theorem exec_cond {c : Operand} {x y : Code} : exec P S D β n (.cond c x y) A h = (match aev A c with | .bool true => exec P S D β n x A h | .bool false => exec P S D β n y A h | _ => none) := rfl
@[simp] theorem exec_block {id : Nat} {c : Code} : exec P S D β n (.block id c) A h = (match exec P S D β n c A h with | some (.exit i, A', h') => if i = id then some (.normal, A', h') else some (.exit i, A', h') | r => r) := rfl
@[simp] theorem exec_loop {c : Code} : exec P S D β n (.loop c) A h = loopx P S D β n c A h := rfl
@[simp] theorem exec_exit {id : Nat} : exec P S D β n (.exit id) A h = some (.exit id, A, h) := rfl
@[simp] theorem exec_scope {c : Code} : exec P S D β n (.scope c) A h = exec P S D β n c A h := rfl
@[simp] theorem exec_ret : exec P S D β n .ret A h = some (.ret, A, h) := rfl

def After (r : Option (AX × List AV × H)) (Q : AX → List AV → H → Prop) : Prop :=
  match r with
  | some (x, A, h) => Q x A h
  | none => False
@[simp] theorem after_some {x : AX} {A : List AV} {h : H} {Q : AX → List AV → H → Prop} : After (some (x, A, h)) Q = Q x A h := rfl

end
attribute [simp] arun awant aop aev aBin aIntOp aUn eqOnly H.nil H.base ofConst ofConst1 putA resvs resv oneOrTup pureS aCall
@[simp] theorem aMap_some {α β : Type} (f : α → β) (a : α) : Option.map f (some a) = some (f a) := rfl
end Go.VM
end
section
/- From the reader to a row's end: what was there before stays. -/
namespace Go.VM
set_option linter.unusedSectionVars false
variable [Inhabited Globs]
open Go.ChangeShapes Go.WideShapes Go.RowKit
section
variable {H : Type} {enc : TypeId × Value → H} {P : Program}
theorem post_of_below {f : Func} {s : ChangeSpec} {apart fresh handsOn again : Bool} {W W' : World} {args : Array Value} {v : Value} {ds gs : List (DataW H)} {before pa pv : List MemPlace}
    (hW : DataW.Whole enc P f.params.toList s.vars apart W args.toList ds gs before)
    (hres : ∀ (b : Nat) (sp : Nat → Bool) (hd : Bool), DataW.TrodAll enc P W' b sp hd f.resultTypes.toList (v.resultList f.resultTypes.size) (s.fn H (ds ++ gs)).results [])
    (hargs : ∀ sp : Nat → Bool, (∀ p ∈ before, sp p.block = true) → DataW.TrodAll enc P W' 0 sp true f.params.toList args.toList (s.fn H (ds ++ gs)).args pa)
    (hvars : ∀ sp : Nat → Bool, (∀ p ∈ before, sp p.block = true) → DataW.TrodVars enc P W' sp s.vars (s.fn H (ds ++ gs)).vars pv)
    (hps : before = pa ++ pv) (hb : Below W.heap.size W W')
    (hok : ∀ (j : Nat) (t : TypeId) (r : Value), f.resultTypes[j]? = some t → (v.resultList f.resultTypes.size)[j]? = some r → Value.okWide P W' .any 0 t r) :
    s.post enc P f apart fresh handsOn again W args v W' := by
  have hlt := hW.lt
  have hold : ∀ p ∈ before, (fun b => decide (b < W.heap.size)) p.block = true := fun p hp => by simpa using hlt p hp
  refine ⟨ds, gs, before, [], pa, pv, hW, hres _ _ _, hargs _ hold, hvars _ hold, World.keptBut_mono (fun p hp => ⟨hp, ?_⟩) (hb.frame (· ∈ before)), fun _ => ?_⟩
  · rw [hps, List.mem_append] at hp
    exact Or.inr hp
  · obtain ⟨_, _, _, _, _, hz, hn⟩ := hW
    refine ⟨hok, _, _, ([] ++ pa) ++ pv, ⟨[] ++ pa, pv, trodAll_append (hargs _ (fun _ _ => rfl)) (hres _ _ _), hvars _ (fun _ _ => rfl), rfl, ?_, ?_⟩, ?_⟩
    · intro b off hp
      have hm : MemPlace.cell b off ∈ before := by rw [hps]; simpa using hp
      have hl : b < W.heap.size := hlt _ hm
      rw [hb.frozen (p := ⟨b, off, none⟩) hl]
      exact hz b off hm
    · intro ha
      have := hn ha
      rw [hps] at this
      simpa using this
    · intro p hp _
      rw [hps]
      simpa using hp
end
end Go.VM
end
section
/- A body, read over a frame that is not laid out. -/
namespace Go.VM
set_option linter.unusedSectionVars false
variable [Inhabited Globs]
section
variable {P : Program}
/-- what is left of a body's end -/
def fin (P : Program) (fn : Func) (β : Base) : Option (AX × List AV × H) → Option (AV × H)
  | some (.exit _, _, _) => none
  | some (_, A, h1) => match resvs P h1 A fn.results.toList with
    | some vs => some (leave β (oneOrTup vs) h1)
    | none => none
  | none => none
end
end Go.VM
end
