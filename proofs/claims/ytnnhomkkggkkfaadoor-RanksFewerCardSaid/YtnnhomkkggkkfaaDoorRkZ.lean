/- Layer 2: whom each player reaches, by the program. -/
import Derived.Test.YtnnhomkkggkkfaaDoorRkY
import Derived.Test.YtnnhomkkggkkfaaDoorVm8
import Derived.Test.YtnnhomkkggkkfaaDoorVm7
import Derived.KernelRfl
set_option linter.unusedSimpArgs false
set_option linter.unusedVariables false
set_option linter.unnecessarySimpa false
set_option maxHeartbeats 4000000
set_option maxRecDepth 100000
namespace Go.Proofs.Rnk
open Go Go.VM
open Go.Proofs.Sur (andn andn_bit andn_le i_wrap i_and i_or i_andn i_shl i_shr bit_01)

/-- what a call made may be written -/
theorem thaw_call {P : Program} {f : FuncId} {args cs : List AV} {n : Nat} (hc : CallOk P f args .nil (.sl cs n (.tok 0 1)) ⟨[], [n], []⟩) (hcs : AV.inds [] cs = true) :
    CallOk P f args .nil (.msl 0 0 n noCap 1) ⟨[cs], [], []⟩ := by
  intro G w vs s hgl hr
  refine (hc G w vs s hgl hr).mono ?_
  rintro e w' ⟨G1, u, rfl, st, s1, hv⟩
  obtain ⟨G2, s2, st2, rel⟩ := thaw_ok s rfl st s1 (k := 0) (n := n) (z := 1) (cs := cs) rfl rfl hv hcs (by intro x hx; cases hx)
  refine ⟨G2, u, rfl, st2, s2, ?_⟩
  have := rel.1 _ _ (by simp [tOk]) hv
  simpa [thw] using this
/-- n sets, one behind the other -/
def wl (n : Nat) (A : Nat → Nat) : List Int := (List.range n).map fun e => ((A e : Nat) : Int)
@[simp] theorem wl_len (n : Nat) (A : Nat → Nat) : (wl n A).length = n := by simp [wl]
theorem wl_get {n : Nat} (A : Nat → Nat) {k : Nat} (hk : k < n) : (wl n A).getD k i0 = ((A k : Nat) : Int) := by
  simp [wl, List.getD_eq_getElem?_getD, hk]
theorem wl_ext {n : Nat} {A B : Nat → Nat} (h : ∀ e, e < n → A e = B e) : wl n A = wl n B := by
  apply List.map_congr_left
  intro e he
  rw [h e (List.mem_range.1 he)]
theorem wl_set {n : Nat} (A B : Nat → Nat) {k : Nat} (hk : k < n) (h : ∀ i, i ≠ k → B i = A i) : (wl n A).set k ((B k : Nat) : Int) = wl n B := by
  apply List.ext_getElem
  · simp
  · intro i h1 h2
    have hi : i < n := by simpa using h1
    simp only [List.getElem_set]
    by_cases e : k = i
    · subst e; rw [if_pos rfl]; simp [wl]
    · rw [if_neg e]; simp [wl, h i (fun q => e q.symm)]
theorem wl_sn {t : List Int} (h : Tn t) : wl t.length (sn t) = t := by
  apply List.ext_getElem
  · simp
  · intro i h1 h2
    have := (h.sn i).2
    simp only [wl, List.getElem_map, List.getElem_range]
    rw [this]
    simp [ia, List.getD_eq_getElem?_getD, h2]
abbrev mR (n : Nat) : AV := .msl 0 0 n noCap 1
abbrev hR (n : Nat) (A : Nat → Nat) : H := ⟨[ints (wl n A)], [], []⟩
/-- 'Clone' of a list that is then written -/
noncomputable def c54m : Ctr Tryd.prog where
  f := 54
  X := List Int
  args t := [ls t .no]
  pre t h := h = .nil ∧ 1 ≤ t.length ∧ t.length ≤ 8
  res t _ := (mR t.length, ⟨[ints t], [], []⟩)
  det := by
    rintro l m h e _ _
    simp only [List.cons.injEq, AV.sl.injEq, and_true] at e
    have := ints_inj e.1
    subst this; rfl
  ok := by
    rintro t h ⟨rfl, h1, h2⟩
    refine ⟨ok54.call, ?_⟩
    cases t with
    | nil => simp at h1
    | cons x l =>
      have := (r54 x l _ rfl (by omega)).run ok54 .nil rfl
      exact thaw_call this (inds_ints _ _)
/-- the first players are reached by themselves as well -/
def g0 (t : List Int) (k : Nat) : Nat → Nat := fun e => if e < k then sn t e ||| 2 ^ e else sn t e
abbrev M54 : FuncId → Bool := (· == 54)
end Go.Proofs.Rnk

