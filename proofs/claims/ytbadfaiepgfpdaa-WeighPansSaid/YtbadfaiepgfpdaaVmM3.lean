/- Regions that draw their order: the trace of the text's order. -/
import Derived.Test.YtbadfaiepgfpdaaVmM2
namespace Go.VM
section
variable {P : Program} {G : Ghost} {w : World}

/-- the text's order, step by step -/
structure Trace (P : Program) (S : Summ) (β : Base) (ops : Array Oper) (A : List AV) (h : H) (A' : List AV) (h' : H) (As : Nat → List AV) (hs : Nat → H) (vs : Nat → AV) : Prop where
  a0 : As 0 = A
  h0 : hs 0 = h
  an : As ops.size = A'
  hn : hs ops.size = h'
  step : ∀ (i : Nat) (o : Oper), ops[i]? = some o → As (i + 1) = putA (As i) o.dst (vs i) ∧
    ((awant ops (As i) o = some true ∧ aop P S β o (As i) (hs i) = some (vs i, hs (i + 1))) ∨ (awant ops (As i) o = some false ∧ vs i = .undef ∧ hs (i + 1) = hs i))

def TraceL (P : Program) (S : Summ) (β : Base) (ops : Array Oper) (l : List Oper) (A : List AV) (h : H) (A' : List AV) (h' : H) : Prop :=
  ∃ (As : Nat → List AV) (hs : Nat → H) (vs : Nat → AV), As 0 = A ∧ hs 0 = h ∧ As l.length = A' ∧ hs l.length = h' ∧ ∀ (i : Nat) (o : Oper), l[i]? = some o → As (i + 1) = putA (As i) o.dst (vs i) ∧
    ((awant ops (As i) o = some true ∧ aop P S β o (As i) (hs i) = some (vs i, hs (i + 1))) ∨ (awant ops (As i) o = some false ∧ vs i = .undef ∧ hs (i + 1) = hs i))

theorem arun_trace {S : Summ} {β : Base} {ops : Array Oper} : ∀ (l : List Oper) (A : List AV) (h : H) (A' : List AV) (h' : H), arun P S β ops l A h = some (A', h') → TraceL P S β ops l A h A' h'
  | [], A, h, A', h', he => by
    simp only [arun, Option.some.injEq, Prod.mk.injEq] at he
    obtain ⟨rfl, rfl⟩ := he
    exact ⟨fun _ => A, fun _ => h, fun _ => .undef, rfl, rfl, rfl, rfl, fun i o ho => by simp at ho⟩
  | o :: l, A, h, A', h', he => by
    simp only [arun] at he
    have cons : ∀ (v : AV) (h1 : H), arun P S β ops l (putA A o.dst v) h1 = some (A', h') →
        ((awant ops A o = some true ∧ aop P S β o A h = some (v, h1)) ∨ (awant ops A o = some false ∧ v = .undef ∧ h1 = h)) → TraceL P S β ops (o :: l) A h A' h' := fun v h1 hr hc => by
      obtain ⟨As, hs, vs, e1, e2, e3, e4, e5⟩ := arun_trace l _ h1 A' h' hr
      refine ⟨fun n => match n with | 0 => A | n + 1 => As n, fun n => match n with | 0 => h | n + 1 => hs n, fun n => match n with | 0 => v | n + 1 => vs n, rfl, rfl, e3, e4, fun i o' ho' => ?_⟩
      cases i with
      | zero =>
        simp at ho'; subst ho'
        refine ⟨e1, ?_⟩
        simp only [e2]; exact hc
      | succ i => exact e5 i o' (by simpa using ho')
    split at he
    · rename_i hw
      split at he
      · rename_i v h1 hop
        exact cons v h1 he (.inl ⟨hw, hop⟩)
      · cases he
    · rename_i hw
      exact cons .undef h he (.inr ⟨hw, rfl, rfl⟩)
    · cases he

/-- what the operations of D have put -/
def AD (A : List AV) (ops : Array Oper) (vs : Nat → AV) (D : Nat → Bool) : Nat → List AV
  | 0 => A
  | k + 1 => if D k then putA (AD A ops vs D k) ((ops[k]?).bind (·.dst)) (vs k) else AD A ops vs D k

theorem putA_get {A : List AV} {d : Option Tmp} {v : AV} {t : Nat} : (putA A d v)[t]? = if d = some t ∧ t < A.length then some v else A[t]? := by
  cases d with
  | none => simp [putA]
  | some d =>
    simp only [putA, List.getElem?_set]
    by_cases e : d = t
    · subst e
      by_cases hl : d < A.length
      · simp [hl]
      · simp [hl, List.getElem?_eq_none (Nat.le_of_not_lt hl)]
    · simp [e]
theorem putA_len {A : List AV} {d : Option Tmp} {v : AV} : (putA A d v).length = A.length := by cases d <;> simp [putA]
theorem AD_len {A : List AV} {ops : Array Oper} {vs : Nat → AV} {D : Nat → Bool} : ∀ k, (AD A ops vs D k).length = A.length
  | 0 => rfl
  | k + 1 => by simp only [AD]; split <;> simp [putA_len, AD_len k]

theorem AD_same {A : List AV} {ops : Array Oper} {vs : Nat → AV} {D E : Nat → Bool} {t : Nat} : ∀ k, (∀ j, j < k → (ops[j]?).bind (·.dst) = some t → D j = E j) → (AD A ops vs D k)[t]? = (AD A ops vs E k)[t]?
  | 0, _ => rfl
  | k + 1, h => by
    have ih := AD_same (A := A) (vs := vs) k (fun j hj => h j (by omega))
    simp only [AD]
    by_cases hd : (ops[k]?).bind (·.dst) = some t
    · have := h k (by omega) hd
      rw [this]
      split
      · simp only [putA_get, AD_len, ih]
      · exact ih
    · split <;> split <;> simp [putA_get, hd, ih]

theorem AD_text {S : Summ} {β : Base} {ops : Array Oper} {A A' : List AV} {h h' : H} {As : Nat → List AV} {hs : Nat → H} {vs : Nat → AV} (tr : Trace P S β ops A h A' h' As hs vs) {i : Nat} (hi : i ≤ ops.size) :
    ∀ k, k ≤ ops.size → AD A ops vs (fun j => decide (j < i)) k = As (min k i)
  | 0, _ => by simp [AD, tr.a0]
  | k + 1, hk => by
    have ih := AD_text tr hi k (by omega)
    simp only [AD]
    by_cases hki : k < i
    · simp only [hki, decide_true, if_true, ih]
      have ho : ops[k]? = some ops[k] := by simp [show k < ops.size by omega]
      rw [show min k i = k by omega, show min (k + 1) i = k + 1 by omega, (tr.step k _ ho).1, ho]
      rfl
    · simp only [hki, decide_false, Bool.false_eq_true, if_false, ih]
      congr 1; omega
end
end Go.VM
