/- A body, read over a frame that is not laid out. -/
import Derived.Test.YtbadfaiepgfpdaaVmQ
namespace Go.VM
section
variable {P : Program}
/-- what is left of a body's end -/
def fin (P : Program) (fn : Func) (β : Base) : Option (AX × List AV × H) → Option (AV × H)
  | some (.exit _, _, _) => none
  | some (_, A, h1) => match resvs P h1 A fn.results.toList with
    | some vs => some (leave β (oneOrTup vs) h1)
    | none => none
  | none => none
theorem ebody_open {p : Pures} {S : Summ} {n : Nat} {fn : Func} {c : Code} {args : List AV} {h : H} {r : AV × H}
    (hA : ∀ A : List AV, A.length = args.length + (fn.ntmps - args.length) → (∀ i (hi : i < args.length), A[i]? = some args[i]) → fin P fn h.base (exec P S (Darun P p) h.base n c A h) = some r) :
    ebody P p S n fn c args h = some r := by
  have := hA (args ++ List.replicate (fn.ntmps - args.length) .undef) (by simp) (fun i hi => by rw [List.getElem?_append_left hi, List.getElem?_eq_getElem hi])
  rw [← this]
  unfold ebody fin
  rfl
end
end Go.VM
