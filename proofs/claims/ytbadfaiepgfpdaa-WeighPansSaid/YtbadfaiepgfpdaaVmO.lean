/- The reader in use. -/
import Derived.Test.YtbadfaiepgfpdaaVmN
namespace Go.VM

def Darun (P : Program) (p : Pures) : Base → Draws := fun β ops A h => arun P (pureS p) β ops ops.toList A h
def Dsafe (P : Program) (p : Pures) : Base → Draws := fun β ops A h => if simpleRegion ops then arun P (pureS p) β ops ops.toList A h else none

def allSimple : Code → Bool
  | .region _ ops true => simpleRegion ops
  | .seq a b => allSimple a && allSimple b
  | .cond _ a b => allSimple a && allSimple b
  | .block _ c => allSimple c
  | .loop c => allSimple c
  | .scope c => allSimple c
  | _ => true

section
variable {P : Program}

theorem dsafe_ok {p : Pures} (hm : P.follows .mixedOrders = true) (hp : PureOk P p) : DrawsOk P (Dsafe P p) := by
  intro β ops A h A' h' he G w a s hβ r id Q hQ
  simp only [Dsafe] at he
  split at he
  · rename_i hs
    exact draw_ok hm hp hs he s hβ r hQ
  · cases he

theorem exec_simple {S : Summ} {p : Pures} {β : Base} {n : Nat} : ∀ (c : Code), allSimple c = true → ∀ A h, exec P S (Darun P p) β n c A h = exec P S (Dsafe P p) β n c A h := by
  intro c
  induction c with
  | region id ops draw =>
    intro hc A h
    cases draw
    · rfl
    · simp only [allSimple] at hc
      simp only [exec, Darun, Dsafe, hc, if_true]
  | seq x y ihx ihy =>
    intro hc A h
    simp only [allSimple, Bool.and_eq_true] at hc
    simp only [exec, ihx hc.1]
    cases exec P S (Dsafe P p) β n x A h with
    | none => rfl
    | some r =>
      obtain ⟨e, A', h'⟩ := r
      cases e <;> simp only [ihy hc.2]
  | cond c x y ihx ihy =>
    intro hc A h
    simp only [allSimple, Bool.and_eq_true] at hc
    simp only [exec, ihx hc.1, ihy hc.2]
  | block id c ih =>
    intro hc A h
    simp only [allSimple] at hc
    simp only [exec, ih hc]
  | loop c ih =>
    intro hc A h
    simp only [allSimple] at hc
    simp only [exec]
    have : exec P S (Darun P p) β n c = exec P S (Dsafe P p) β n c := funext fun A => funext fun h => ih hc A h
    rw [this]
  | scope c ih =>
    intro hc A h
    simp only [allSimple] at hc
    simp only [exec, ih hc]
  | _ => intros; rfl

/-- the body of a function, read -/
def ebody (P : Program) (p : Pures) (S : Summ) (n : Nat) (fn : Func) (c : Code) (args : List AV) (h : H) : Option (AV × H) :=
  match exec P S (Darun P p) h.base n c (args ++ List.replicate (fn.ntmps - args.length) .undef) h with
  | some (.exit _, _, _) => none
  | some (_, A, h1) =>
    match resvs P h1 A fn.results.toList with
    | some vs => some (leave h.base (oneOrTup vs) h1)
    | none => none
  | none => none

theorem ebody_ok {p : Pures} {S : Summ} (hm : P.follows .mixedOrders = true) (hp : PureOk P p) (hS : SummOk P S) {f : FuncId} {fn : Func} (hf : P.funcs[f]? = some fn) {c : Code} (hb : fn.body = some c) (hs : allSimple c = true)
    {n : Nat} {args : List AV} {h : H} {v : AV} {h' : H} (he : ebody P p S n fn c args h = some (v, h')) : CallOk P f args h v h' := by
  refine acall_ok hS (dsafe_ok hm hp) (n := n) ?_
  unfold acall
  simp only [hf, hb]
  unfold ebody at he
  rw [exec_simple c hs] at he
  exact he
end
end Go.VM
