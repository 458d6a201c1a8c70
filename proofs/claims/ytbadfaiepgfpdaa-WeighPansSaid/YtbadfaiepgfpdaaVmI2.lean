/- Maps: looking up, storing. -/
import Derived.Test.YtbadfaiepgfpdaaVmI
namespace Go.VM
section
variable {P : Program} {G : Ghost} {h : H} {w : World}

def CheckAtD (P : Program) (w : World) (b : Bool) (d : Nat) : Prop :=
  ∀ D t ks, flat P d t = some ks → d ≤ D → ∀ vs : List Value, vs.length = ks.length → (Instr.checkKey b D t (rdCells P t vs)).run P w = .ok () w

theorem check_fields {b : Bool} {d D : Nat} (hd : d ≤ D) (ih : CheckAtD P w b d) (vs : List Value) : ∀ (fs : List Field) (l ks : List Kd), fs.foldl (flatStep P fun t => flat P d t) (some l) = some ks → vs.length = ks.length →
      (forIn fs PUnit.unit (fun f (_ : PUnit) => (if f.name ≠ "_" then (do
        let x ← part f.type vs.toArray f.offset
        Instr.checkKey b D f.type x
        pure (ForInStep.yield PUnit.unit)) else pure (ForInStep.yield PUnit.unit) : Sem (ForInStep PUnit)))).run P w = .ok PUnit.unit w ∧ l.length ≤ ks.length
  | [], l, ks, h, _ => by
    simp only [List.foldl_nil, Option.some.injEq] at h
    subst h
    exact ⟨rfl, Nat.le_refl _⟩
  | f :: fs, l, ks, h, hlen => by
    simp only [List.foldl_cons] at h
    cases hm : flat P d f.type with
    | none => simp only [flatStep, hm] at h; rw [flat_fold_none] at h; cases h
    | some m =>
      simp only [flatStep, hm] at h
      split at h
      · rename_i hc
        obtain ⟨hn, ho, hs, hi⟩ := hc
        obtain ⟨r1, r2⟩ := check_fields hd ih vs fs (l ++ m) ks h hlen
        simp only [List.length_append] at r2
        obtain ⟨de, hde, hone⟩ := flat_shape hm
        have px := part_run' (w := w) hde hs vs.toArray f.offset (by simp; omega) hone
        have e := ih D f.type m hm hd ((vs.drop f.offset).take m.length) (by simp; omega)
        refine ⟨?_, by omega⟩
        rw [List.forIn_cons]
        simp only [ne_eq, hn, not_false_eq_true, if_true, Sem.run_bind, px, Result.andThen_ok, e, Sem.run_pure]
        exact r1
      · rw [flat_fold_none] at h; cases h

theorem check_items {b : Bool} {d D : Nat} (hd : d ≤ D) (ih : CheckAtD P w b d) {e : TypeId} {m : List Kd} (hm : flat P d e = some m) {de : TypeDesc} (hde : P.underlying e = some de) (hs : sizeT P e = some m.length) (hone : isAggT P e = false → m.length = 1) (vs : List Value) :
    ∀ (is : List Nat), (∀ i ∈ is, i * m.length + m.length ≤ vs.length) →
      (forIn is PUnit.unit (fun i (_ : PUnit) => (do
        Instr.checkKey b D e (← part e vs.toArray (i * (← sizeOf e)))
        pure (ForInStep.yield PUnit.unit) : Sem (ForInStep PUnit)))).run P w = .ok PUnit.unit w
  | [], _ => rfl
  | i :: is, h => by
    have px := part_run' (w := w) hde hs vs.toArray (i * m.length) (by simpa using h i (by simp)) hone
    have e' := ih D e m hm hd ((vs.drop (i * m.length)).take m.length) (by have := h i (by simp); simp; omega)
    rw [List.forIn_cons]
    simp only [Sem.run_bind, run_sizeT hs, Result.andThen_ok, px, e', Sem.run_pure]
    exact check_items hd ih hm hde hs hone vs is (fun i hi => h i (by simp [hi]))

theorem check_run (b : Bool) (d : Nat) : CheckAtD P w b d := by
  induction d with
  | zero => intro D t ks h; simp [flat] at h
  | succ d ih =>
    intro D t ks h hd vs hl
    obtain ⟨D, rfl⟩ : ∃ D', D = D' + 1 := ⟨D - 1, by omega⟩
    simp only [flat] at h
    split at h
    · rename_i hu; simp [Instr.checkKey, run_underlying hu]
    · rename_i k hu; simp [Instr.checkKey, run_underlying hu]
    · rename_i hu; simp [Instr.checkKey, run_underlying hu]
    · rename_i fs hu
      split at h
      · cases h
      · simp only [rdCells, aggT_struct hu, if_true]
        have := (check_fields (b := b) (Nat.le_of_succ_le_succ hd) ih vs fs.toList [] ks h hl).1
        simp only [Instr.checkKey, Sem.run_bind, run_underlying hu, Result.andThen_ok]
        rw [← Array.forIn_toList]
        erw [this]
        rfl
    · rename_i n e hu
      split at h
      · rename_i m hm
        split at h
        · rename_i hs
          simp only [Option.some.injEq] at h; subst h
          obtain ⟨de, hde, hone⟩ := flat_shape hm
          simp only [rdCells, aggT_array hu, if_true]
          simp only [List.length_flatten, List.map_replicate, List.sum_replicate_nat] at hl
          have := check_items (b := b) (Nat.le_of_succ_le_succ hd) ih hm hde hs hone vs (List.range n) (fun i hi => by
            have hi' : i < n := by simpa using hi
            have : (i + 1) * m.length ≤ n * m.length := Nat.mul_le_mul_right _ hi'
            rw [Nat.add_mul, Nat.one_mul] at this
            omega)
          simp only [Instr.checkKey, Sem.run_bind, run_underlying hu, Result.andThen_ok]
          simp only [Std.Legacy.Range.forIn_eq_forIn_range', Std.Legacy.Range.size, Nat.sub_zero, Nat.add_one_sub_one, Nat.div_one]
          rw [← List.range_eq_range']
          erw [this]
          rfl
        · cases h
      · cases h
    · cases h

theorem key_shape {kt : TypeId} {k : AV} (hk : aEq P kt k k = some true) : ∃ ks xs, flat P 20 kt = some ks ∧ k.cells? = some xs ∧ xs.length = ks.length ∧ isAggT P kt = k.isAgg := by
  unfold aEq at hk
  split at hk
  · rename_i ks xs ys h1 h2 h3
    split at hk
    · rename_i hc
      exact ⟨ks, xs, h1, h2, (eqs_len hk).1, hc.1⟩
    · cases hk
  · cases hk

theorem checkKey_ok {kt : TypeId} {k : AV} (hk : aEq P kt k k = some true) {v : Value} (hv : VRel G k v) (b : Bool) : (Instr.checkKey b 10000 kt v).run P w = .ok () w := by
  obtain ⟨ks, xs, h1, h2, h3, h4⟩ := key_shape hk
  have hc := cells_rel hv h2
  have := check_run (P := P) (w := w) b 20 10000 kt ks h1 (by omega) v.cells.toList (by have := hc.length; simp at this ⊢; omega)
  rwa [rdCells_self hv h2 h4] at this

/-- entries that stand for pairs -/
def ERel (G : Ghost) : List (AV × AV) → List MapEntry → Prop
  | [], es => es = []
  | kv :: M, es => ∃ e es', es = e :: es' ∧ VRel G kv.1 e.key ∧ VRel G kv.2 e.val ∧ ERel G M es'

def idxOfKey (P : Program) (kt : TypeId) (k : AV) : List (AV × AV) → Nat → Option (Nat × AV)
  | [], _ => none
  | kv :: M, i => if keyIs P kt k kv then some (i, kv.2) else idxOfKey P kt k M (i + 1)

theorem findAsking_run {kt : TypeId} {k : AV} {v : Value} (hv : VRel G k v) : ∀ (M : List (AV × AV)) (es : List MapEntry) (i : Nat), ERel G M es → (∀ kv ∈ M, aEq P kt k kv.1 = some (keyIs P kt k kv)) →
    ∃ r, (Instr.findAsking kt v es i).run P w = .ok r w ∧ ((idxOfKey P kt k M i = none ∧ r = none) ∨ ∃ j a u, idxOfKey P kt k M i = some (j, a) ∧ r = some (j, u) ∧ VRel G a u)
  | [], es, i, he, _ => by
    simp only [ERel] at he; subst he
    exact ⟨none, rfl, .inl ⟨rfl, rfl⟩⟩
  | kv :: M, es, i, he, hd => by
    simp only [ERel] at he
    obtain ⟨e, es', rfl, h1, h2, h3⟩ := he
    have hq := aEq_run (w := w) (hd kv (by simp)) hv h1
    simp only [Instr.findAsking, Sem.run_bind, hq, Result.andThen_ok, idxOfKey]
    cases hk : keyIs P kt k kv
    · obtain ⟨r, r1, r2⟩ := findAsking_run hv M es' (i + 1) h3 (fun kv hkv => hd kv (by simp [hkv]))
      exact ⟨r, by simpa using r1, by simpa using r2⟩
    · exact ⟨some (i, e.val), by simp, .inr ⟨i, kv.2, e.val, by simp, rfl, h2⟩⟩

theorem sameNow_spec {kt : TypeId} {d : TypeDesc} (hu : P.underlying kt = some d) {k a : AV} {b : Bool} (he : aEq P kt k a = some b) {v u : Value} (hv : VRel G k v) (hu' : VRel G a u) :
    Instr.sameNow d v u = some b ∨ ∀ v' u', Instr.sameNow d v' u' = none := by
  unfold aEq at he
  split at he
  · rename_i ks xs ys h1 h2 h3
    split at he
    · rename_i hc
      unfold flat at h1
      simp only [hu] at h1
      have hsc : ∀ {k0 : Kd}, isAggT P kt = false → ks = [k0] → eq1 k0 k a = some b := fun {k0} ha hks => by
        subst hks
        have e1 := cells_not h2 (hc.1 ▸ ha)
        have e2 := cells_not h3 (hc.2 ▸ ha)
        subst e1 e2
        obtain ⟨x, y, q1, q2, q3⟩ := eqs_one he
        cases q1; cases q2; exact q3
      cases d <;> simp only [reduceCtorEq] at h1
      case bool =>
        have := hsc (by simp [isAggT, hu]) (Option.some.inj h1).symm
        cases k <;> cases a <;> simp [eq1] at this
        simp only [VRel] at hv hu'; subst hv hu'
        left; simp [Instr.sameNow, this]
      case int =>
        have := hsc (by simp [isAggT, hu]) (Option.some.inj h1).symm
        cases k <;> cases a <;> simp [eq1] at this
        simp only [VRel] at hv hu'; subst hv hu'
        left; simp [Instr.sameNow, this]
      case string =>
        have := hsc (by simp [isAggT, hu]) (Option.some.inj h1).symm
        cases k <;> cases a <;> simp [eq1] at this
        simp only [VRel] at hv hu'; subst hv hu'
        left; simp [Instr.sameNow, this]
      all_goals (right; intro v' u'; simp [Instr.sameNow])
    · cases he
  · cases he

theorem findNow_run {kt : TypeId} {d : TypeDesc} (hu : P.underlying kt = some d) {k : AV} {v : Value} (hv : VRel G k v) : ∀ (M : List (AV × AV)) (es : List MapEntry) (i : Nat), ERel G M es → (∀ kv ∈ M, aEq P kt k kv.1 = some (keyIs P kt k kv)) →
    Instr.findNow d v es i = none ∨ ∃ r, Instr.findNow d v es i = some r ∧ ((idxOfKey P kt k M i = none ∧ r = none) ∨ ∃ j a u, idxOfKey P kt k M i = some (j, a) ∧ r = some (j, u) ∧ VRel G a u)
  | [], es, i, he, _ => by
    simp only [ERel] at he; subst he
    exact .inr ⟨none, rfl, .inl ⟨rfl, rfl⟩⟩
  | kv :: M, es, i, he, hd => by
    simp only [ERel] at he
    obtain ⟨e, es', rfl, h1, h2, h3⟩ := he
    rcases sameNow_spec hu (hd kv (by simp)) hv h1 with hs | hs
    · simp only [Instr.findNow, hs, idxOfKey]
      cases hk : keyIs P kt k kv
      · simpa using findNow_run hu hv M es' (i + 1) h3 (fun kv hkv => hd kv (by simp [hkv]))
      · right; exact ⟨some (i, e.val), by simp, .inr ⟨i, kv.2, e.val, by simp, rfl, h2⟩⟩
    · left; simp [Instr.findNow, hs]

theorem findKey_run {kt : TypeId} {k : AV} {v : Value} (hv : VRel G k v) (hk : aEq P kt k k = some true) {M : List (AV × AV)} {es : List MapEntry} (he : ERel G M es) (hd : ∀ kv ∈ M, aEq P kt k kv.1 = some (keyIs P kt k kv)) :
    ∃ r, (Instr.findKey kt v es).run P w = .ok r w ∧ ((idxOfKey P kt k M 0 = none ∧ r = none) ∨ ∃ j a u, idxOfKey P kt k M 0 = some (j, a) ∧ r = some (j, u) ∧ VRel G a u) := by
  obtain ⟨ks, xs, h1, _⟩ := key_shape hk
  obtain ⟨d, hu, _⟩ := flat_shape h1
  simp only [Instr.findKey, Sem.run_bind, run_underlying hu, Result.andThen_ok]
  rcases findNow_run hu hv M es 0 he hd with hn | ⟨r, hr, hrel⟩
  · simp only [hn]; exact findAsking_run hv M es 0 he hd
  · simp only [hr]; exact ⟨r, rfl, hrel⟩
end
end Go.VM
