/- Regions that draw their order: what one operation hangs on. -/
import Derived.Test.YtbadfaiepgfpdaaVmL2
import Derived.Orders
namespace Go.VM

abbrev Pures := FuncId → List AV → Option AV
def pureS (p : Pures) : Summ := fun f args h => (p f args).map fun v => (v, h)
def PureOk (P : Program) (p : Pures) : Prop := ∀ f args v, p f args = some v → callable P f = true ∧ ∀ h, CallOk P f args h v h

def quietKind : Op → Bool
  | .move _ | .assign _ | .pick .. | .build .. | .buildSlice .. | .load .. | .nilCheck _ | .binOp .. | .unOp .. | .convert .. | .slice .. | .fieldAddr .. | .field .. | .indexAddr .. | .index .. | .lookup .. | .extract .. | .makeFunc .. => true
  | .call { callee := .value _, .. } => true
  | .call { callee := .builtin .len, .. } => true
  | .call { callee := .builtin .min, .. } => true
  | .call { callee := .builtin .max, .. } => true
  | _ => false
def readsH : Op → Bool
  | .load .. | .lookup .. => true
  | .call { callee := .builtin .len, .. } => true
  | _ => false
def allocKind : Op → Bool
  | .alloc _ => true
  | _ => false
def effKind : Op → Bool
  | .store .. | .mapUpdate .. | .insert .. => true
  | _ => false

theorem pureS_ok {P : Program} {p : Pures} (h : PureOk P p) : SummOk P (pureS p) := by
  intro f args hh v h' he
  simp only [pureS, Option.map_eq_some_iff, Prod.mk.injEq] at he
  obtain ⟨x, hx, rfl, rfl⟩ := he
  exact ⟨(h f args x hx).1, (h f args x hx).2 hh⟩

section
variable {P : Program} {p : Pures} {β : Base} {o : Oper} {A A' : List AV} {h h' h2 : H} {v : AV}

/-- a quiet operation: its value, and how it hangs on the heap -/
theorem quiet_form (hq : quietKind o.op = true) : ∃ f : H → Option AV, (∀ h, aop P (pureS p) β o A h = (f h).map fun v => (v, h)) ∧ (readsH o.op = false → ∀ h h2, f h = f h2) ∧
    (∀ h zs v, f h = some v → f { h with blk := h.blk ++ zs } = some v) := by
  cases hop : o.op <;> simp only [hop, quietKind, Bool.false_eq_true] at hq
  case move x => exact ⟨fun _ => some (aev A x), fun h => by simp [aop, hop], fun _ _ _ => rfl, fun _ _ _ e => e⟩
  case assign x => exact ⟨fun _ => some (aev A x), fun h => by simp [aop, hop], fun _ _ _ => rfl, fun _ _ _ e => e⟩
  case pick c x y =>
    refine ⟨fun _ => (match aev A c with | .bool t => some (if t then aev A x else aev A y) | _ => none), fun h => ?_, fun _ _ _ => rfl, fun _ _ _ e => e⟩
    simp only [aop, hop]; cases aev A c <;> rfl
  case build t ps => exact ⟨fun _ => _, fun h => by simp only [aop, hop]; rfl, fun _ _ _ => rfl, fun _ _ _ e => e⟩
  case buildSlice t n ps => exact ⟨fun _ => _, fun h => by simp only [aop, hop]; rfl, fun _ _ _ => rfl, fun _ _ _ e => e⟩
  case load t x =>
    refine ⟨fun h => (match h.target (aev A x) with | some cs => aLoad P t cs | none => none), fun h => ?_, fun e => by simp [readsH] at e, fun h zs v e => ?_⟩
    · simp only [aop, hop]; cases h.target (aev A x) <;> rfl
    · simp only at e ⊢
      split at e
      · rename_i cs hcs
        cases hx : aev A x <;> rw [hx] at hcs <;> simp only [H.target, reduceCtorEq] at hcs ⊢
        case ptr b o =>
          rw [Option.map_eq_some_iff] at hcs
          obtain ⟨c0, h1, rfl⟩ := hcs
          have hlt := (List.getElem?_eq_some_iff.1 h1).1
          rw [List.getElem?_append_left hlt, h1]; exact e
        case cptr cs0 => cases hcs; exact e
      · cases e
  case nilCheck x =>
    refine ⟨fun _ => (match aev A x with | .ptr b k => some (.ptr b k) | .cptr cs => some (.cptr cs) | _ => none), fun h => ?_, fun _ _ _ => rfl, fun _ _ _ e => e⟩
    simp only [aop, hop]; cases aev A x <;> rfl
  case binOp op t x y ty => exact ⟨fun _ => _, fun h => by simp only [aop, hop]; rfl, fun _ _ _ => rfl, fun _ _ _ e => e⟩
  case unOp op t x => exact ⟨fun _ => _, fun h => by simp only [aop, hop]; rfl, fun _ _ _ => rfl, fun _ _ _ e => e⟩
  case convert t t' x => exact ⟨fun _ => _, fun h => by simp only [aop, hop]; rfl, fun _ _ _ => rfl, fun _ _ _ e => e⟩
  case slice t x lo hi mx => exact ⟨fun h => aSlice P t (aev A x) (lo.map (aev A)) (hi.map (aev A)) (mx.map (aev A)) h, fun h => by simp only [aop, hop], fun _ _ _ => rfl, fun _ _ _ e => e⟩
  case fieldAddr t x f => exact ⟨fun _ => _, fun h => by simp only [aop, hop]; rfl, fun _ _ _ => rfl, fun _ _ _ e => e⟩
  case field t x f => exact ⟨fun _ => _, fun h => by simp only [aop, hop]; rfl, fun _ _ _ => rfl, fun _ _ _ e => e⟩
  case indexAddr t x i => exact ⟨fun _ => _, fun h => by simp only [aop, hop]; rfl, fun _ _ _ => rfl, fun _ _ _ e => e⟩
  case index t x i => exact ⟨fun _ => _, fun h => by simp only [aop, hop]; rfl, fun _ _ _ => rfl, fun _ _ _ e => e⟩
  case lookup t x i ok => exact ⟨fun h => aLookup P t (aev A x) (aev A i) ok h, fun h => by simp only [aop, hop], fun e => by simp [readsH] at e, fun h zs v e => e⟩
  case extract t i =>
    refine ⟨fun _ => (match aev A t with | .tup vs => vs[i]? | _ => none), fun h => ?_, fun _ _ _ => rfl, fun _ _ _ e => e⟩
    simp only [aop, hop]; cases aev A t <;> rfl
  case makeFunc f a b => exact ⟨fun _ => some _, fun h => by simp only [aop, hop]; rfl, fun _ _ _ => rfl, fun _ _ _ e => e⟩
  case call c =>
    obtain ⟨callee, args, argTypes⟩ := c
    cases callee with
    | value f =>
      refine ⟨fun _ => (match aev A f with | .fn (.func i) first cap => p i (first ++ args.toList.map (aev A) ++ cap) | _ => none), fun h => ?_, fun _ _ _ => rfl, fun _ _ _ e => e⟩
      simp only [aop, hop, aCall, pureS]
      cases hx : aev A f <;> try rfl
      rename_i fn _ _
      cases fn <;> rfl
    | invoke r m => simp at hq
    | builtin b =>
      cases b <;> simp only [Bool.false_eq_true] at hq
      · refine ⟨fun h => (match args.toList.map (aev A), argTypes.toList with | [x], t :: _ => aLen P t x h | _, _ => none), fun h => ?_, fun e => by simp [readsH] at e, fun h zs v e => ?_⟩
        · simp only [aop, hop]
          rcases args.toList.map (aev A) with _ | ⟨x, _ | ⟨_, _⟩⟩ <;> rcases argTypes.toList with _ | ⟨t, ts⟩ <;> rfl
        · exact e
      · exact ⟨fun _ => _, fun h => by simp only [aop, hop]; rfl, fun _ _ _ => rfl, fun _ _ _ e => e⟩
      · exact ⟨fun _ => _, fun h => by simp only [aop, hop]; rfl, fun _ _ _ => rfl, fun _ _ _ e => e⟩
end
end Go.VM
