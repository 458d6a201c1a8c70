/- Own texts on reading the model, joined: VmI2, VmI3, VmI4, VmJ, VmK, VmL, VmL2, VmM, VmM2, VmM3, VmM4, VmM5, VmN, VmO, VmP. -/
import Derived.Test.YtdnidpojcocklaaDoorVm1
import Derived.Laws.Append
import Derived.LoopN
import Derived.Scope
import Derived.Orders
set_option linter.unusedSimpArgs false
set_option linter.unusedVariables false
set_option linter.unnecessarySimpa false
section
/- Maps: looking up, storing. -/
namespace Go.VM
set_option linter.unusedSectionVars false
variable [Inhabited Globs]
section
variable {P : Program} {G : Ghost} {h : H} {w : World}

def CheckAtD (P : Program) (w : World) (b : Bool) (d : Nat) : Prop :=
  ∀ D t ks, flat P d t = some ks → d ≤ D → ∀ vs : List Value, vs.length = ks.length → (Instr.checkKey b D t (rdCells P t vs)).run P w = .ok () w

theorem check_fields {b : Bool} {d D : Nat} (hd : d ≤ D) (ih : CheckAtD P w b d) (vs : List Value) : ∀ (fs : List Field) (l ks : List Kd), fs.foldl (flatStep P fun t => flat P d t) (some l) = some ks → vs.length = ks.length →
      (forIn fs PUnit.unit (fun f (_ : PUnit) => (if f.name ≠ "_" then (do
        let x ← part f.type vs.toArray f.offset
        Instr.checkKey b D f.type x
        pure (ForInStep.yield PUnit.unit)) else pure (ForInStep.yield PUnit.unit) : Sem (ForInStep PUnit)))).run P w = .ok PUnit.unit w ∧ l.length ≤ ks.length
  | [], l, ks, h, _ => by
    simp only [List.foldl_nil, Option.some.injEq] at h
    subst h
    exact ⟨rfl, Nat.le_refl _⟩
  | f :: fs, l, ks, h, hlen => by
    simp only [List.foldl_cons] at h
    cases hm : flat P d f.type with
    | none => simp only [flatStep, hm] at h; rw [flat_fold_none] at h; cases h
    | some m =>
      simp only [flatStep, hm] at h
      split at h
      · rename_i hc
        obtain ⟨hn, ho, hs, hi⟩ := hc
        obtain ⟨r1, r2⟩ := check_fields hd ih vs fs (l ++ m) ks h hlen
        simp only [List.length_append] at r2
        obtain ⟨de, hde, hone⟩ := flat_shape hm
        have px := part_run' (w := w) hde hs vs.toArray f.offset (by simp; omega) hone
        have e := ih D f.type m hm hd ((vs.drop f.offset).take m.length) (by simp; omega)
        refine ⟨?_, by omega⟩
        rw [List.forIn_cons]
        simp only [ne_eq, hn, not_false_eq_true, if_true, Sem.run_bind, px, Result.andThen_ok, e, Sem.run_pure]
        exact r1
      · rw [flat_fold_none] at h; cases h

theorem check_items {b : Bool} {d D : Nat} (hd : d ≤ D) (ih : CheckAtD P w b d) {e : TypeId} {m : List Kd} (hm : flat P d e = some m) {de : TypeDesc} (hde : P.underlying e = some de) (hs : sizeT P e = some m.length) (hone : isAggT P e = false → m.length = 1) (vs : List Value) :
    ∀ (is : List Nat), (∀ i ∈ is, i * m.length + m.length ≤ vs.length) →
      (forIn is PUnit.unit (fun i (_ : PUnit) => (do
        Instr.checkKey b D e (← part e vs.toArray (i * (← sizeOf e)))
        pure (ForInStep.yield PUnit.unit) : Sem (ForInStep PUnit)))).run P w = .ok PUnit.unit w
  | [], _ => rfl
  | i :: is, h => by
    have px := part_run' (w := w) hde hs vs.toArray (i * m.length) (by simpa using h i (by simp)) hone
    have e' := ih D e m hm hd ((vs.drop (i * m.length)).take m.length) (by have := h i (by simp); simp; omega)
    rw [List.forIn_cons]
    simp only [Sem.run_bind, run_sizeT hs, Result.andThen_ok, px, e', Sem.run_pure]
    exact check_items hd ih hm hde hs hone vs is (fun i hi => h i (by simp [hi]))

theorem check_run (b : Bool) (d : Nat) : CheckAtD P w b d := by
  induction d with
  | zero => intro D t ks h; simp [flat] at h
  | succ d ih =>
    intro D t ks h hd vs hl
    obtain ⟨D, rfl⟩ : ∃ D', D = D' + 1 := ⟨D - 1, by omega⟩
    simp only [flat] at h
    split at h
    · rename_i hu; simp [Instr.checkKey, run_underlying hu]
    · rename_i k hu; simp [Instr.checkKey, run_underlying hu]
    · rename_i hu; simp [Instr.checkKey, run_underlying hu]
    · rename_i fs hu
      split at h
      · cases h
      · simp only [rdCells, aggT_struct hu, if_true]
        have := (check_fields (b := b) (Nat.le_of_succ_le_succ hd) ih vs fs.toList [] ks h hl).1
        simp only [Instr.checkKey, Sem.run_bind, run_underlying hu, Result.andThen_ok]
        rw [← Array.forIn_toList]
        erw [this]
        rfl
    · rename_i n e hu
      split at h
      · rename_i m hm
        split at h
        · rename_i hs
          simp only [Option.some.injEq] at h; subst h
          obtain ⟨de, hde, hone⟩ := flat_shape hm
          simp only [rdCells, aggT_array hu, if_true]
          simp only [List.length_flatten, List.map_replicate, List.sum_replicate_nat] at hl
          have := check_items (b := b) (Nat.le_of_succ_le_succ hd) ih hm hde hs hone vs (List.range n) (fun i hi => by
            have hi' : i < n := by simpa using hi
            have : (i + 1) * m.length ≤ n * m.length := Nat.mul_le_mul_right _ hi'
            rw [Nat.add_mul, Nat.one_mul] at this
            omega)
          simp only [Instr.checkKey, Sem.run_bind, run_underlying hu, Result.andThen_ok]
          simp only [Std.Legacy.Range.forIn_eq_forIn_range', Std.Legacy.Range.size, Nat.sub_zero, Nat.add_one_sub_one, Nat.div_one]
          rw [← List.range_eq_range']
          erw [this]
          rfl
        · cases h
      · cases h
    · cases h

theorem key_shape {kt : TypeId} {k : AV} (hk : aEq P kt k k = some true) : ∃ ks xs, flat P 20 kt = some ks ∧ k.cells? = some xs ∧ xs.length = ks.length ∧ isAggT P kt = k.isAgg := by
  unfold aEq at hk
  split at hk
  · rename_i ks xs ys h1 h2 h3
    split at hk
    · rename_i hc
      exact ⟨ks, xs, h1, h2, (eqs_len hk).1, hc.1⟩
    · cases hk
  · cases hk

theorem checkKey_ok {kt : TypeId} {k : AV} (hk : aEq P kt k k = some true) {v : Value} (hv : VRel G k v) (b : Bool) : (Instr.checkKey b 10000 kt v).run P w = .ok () w := by
  obtain ⟨ks, xs, h1, h2, h3, h4⟩ := key_shape hk
  have hc := cells_rel hv h2
  have := check_run (P := P) (w := w) b 20 10000 kt ks h1 (by omega) v.cells.toList (by have := hc.length; simp at this ⊢; omega)
  rwa [rdCells_self hv h2 h4] at this

/-- entries that stand for pairs -/
def ERel (G : Ghost) : List (AV × AV) → List MapEntry → Prop
  | [], es => es = []
  | kv :: M, es => ∃ e es', es = e :: es' ∧ VRel G kv.1 e.key ∧ VRel G kv.2 e.val ∧ ERel G M es'

def idxOfKey (P : Program) (kt : TypeId) (k : AV) : List (AV × AV) → Nat → Option (Nat × AV)
  | [], _ => none
  | kv :: M, i => if keyIs P kt k kv then some (i, kv.2) else idxOfKey P kt k M (i + 1)

theorem findAsking_run {kt : TypeId} {k : AV} {v : Value} (hv : VRel G k v) : ∀ (M : List (AV × AV)) (es : List MapEntry) (i : Nat), ERel G M es → (∀ kv ∈ M, aEq P kt k kv.1 = some (keyIs P kt k kv)) →
    ∃ r, (Instr.findAsking kt v es i).run P w = .ok r w ∧ ((idxOfKey P kt k M i = none ∧ r = none) ∨ ∃ j a u, idxOfKey P kt k M i = some (j, a) ∧ r = some (j, u) ∧ VRel G a u)
  | [], es, i, he, _ => by
    simp only [ERel] at he; subst he
    exact ⟨none, rfl, .inl ⟨rfl, rfl⟩⟩
  | kv :: M, es, i, he, hd => by
    simp only [ERel] at he
    obtain ⟨e, es', rfl, h1, h2, h3⟩ := he
    have hq := aEq_run (w := w) (hd kv (by simp)) hv h1
    simp only [Instr.findAsking, Sem.run_bind, hq, Result.andThen_ok, idxOfKey]
    cases hk : keyIs P kt k kv
    · obtain ⟨r, r1, r2⟩ := findAsking_run hv M es' (i + 1) h3 (fun kv hkv => hd kv (by simp [hkv]))
      exact ⟨r, by simpa using r1, by simpa using r2⟩
    · exact ⟨some (i, e.val), by simp, .inr ⟨i, kv.2, e.val, by simp, rfl, h2⟩⟩

theorem sameNow_spec {kt : TypeId} {d : TypeDesc} (hu : P.underlying kt = some d) {k a : AV} {b : Bool} (he : aEq P kt k a = some b) {v u : Value} (hv : VRel G k v) (hu' : VRel G a u) :
    Instr.sameNow d v u = some b ∨ ∀ v' u', Instr.sameNow d v' u' = none := by
  unfold aEq at he
  split at he
  · rename_i ks xs ys h1 h2 h3
    split at he
    · rename_i hc
      unfold flat at h1
      simp only [hu] at h1
      have hsc : ∀ {k0 : Kd}, isAggT P kt = false → ks = [k0] → eq1 k0 k a = some b := fun {k0} ha hks => by
        subst hks
        have e1 := cells_not h2 (hc.1 ▸ ha)
        have e2 := cells_not h3 (hc.2 ▸ ha)
        subst e1 e2
        obtain ⟨x, y, q1, q2, q3⟩ := eqs_one he
        cases q1; cases q2; exact q3
      cases d <;> simp only [reduceCtorEq] at h1
      case bool =>
        have := hsc (by simp [isAggT, hu]) (Option.some.inj h1).symm
        cases k <;> cases a <;> simp [eq1] at this
        simp only [VRel] at hv hu'; subst hv hu'
        left; simp [Instr.sameNow, this]
      case int =>
        have := hsc (by simp [isAggT, hu]) (Option.some.inj h1).symm
        cases k <;> cases a <;> simp [eq1] at this
        simp only [VRel] at hv hu'; subst hv hu'
        left; simp [Instr.sameNow, this]
      case string =>
        have := hsc (by simp [isAggT, hu]) (Option.some.inj h1).symm
        cases k <;> cases a <;> simp [eq1] at this
        simp only [VRel] at hv hu'; subst hv hu'
        left; simp [Instr.sameNow, this]
      all_goals (right; intro v' u'; simp [Instr.sameNow])
    · cases he
  · cases he

theorem findNow_run {kt : TypeId} {d : TypeDesc} (hu : P.underlying kt = some d) {k : AV} {v : Value} (hv : VRel G k v) : ∀ (M : List (AV × AV)) (es : List MapEntry) (i : Nat), ERel G M es → (∀ kv ∈ M, aEq P kt k kv.1 = some (keyIs P kt k kv)) →
    Instr.findNow d v es i = none ∨ ∃ r, Instr.findNow d v es i = some r ∧ ((idxOfKey P kt k M i = none ∧ r = none) ∨ ∃ j a u, idxOfKey P kt k M i = some (j, a) ∧ r = some (j, u) ∧ VRel G a u)
  | [], es, i, he, _ => by
    simp only [ERel] at he; subst he
    exact .inr ⟨none, rfl, .inl ⟨rfl, rfl⟩⟩
  | kv :: M, es, i, he, hd => by
    simp only [ERel] at he
    obtain ⟨e, es', rfl, h1, h2, h3⟩ := he
    rcases sameNow_spec hu (hd kv (by simp)) hv h1 with hs | hs
    · simp only [Instr.findNow, hs, idxOfKey]
      cases hk : keyIs P kt k kv
      · simpa using findNow_run hu hv M es' (i + 1) h3 (fun kv hkv => hd kv (by simp [hkv]))
      · right; exact ⟨some (i, e.val), by simp, .inr ⟨i, kv.2, e.val, by simp, rfl, h2⟩⟩
    · left; simp [Instr.findNow, hs]

theorem findKey_run {kt : TypeId} {k : AV} {v : Value} (hv : VRel G k v) (hk : aEq P kt k k = some true) {M : List (AV × AV)} {es : List MapEntry} (he : ERel G M es) (hd : ∀ kv ∈ M, aEq P kt k kv.1 = some (keyIs P kt k kv)) :
    ∃ r, (Instr.findKey kt v es).run P w = .ok r w ∧ ((idxOfKey P kt k M 0 = none ∧ r = none) ∨ ∃ j a u, idxOfKey P kt k M 0 = some (j, a) ∧ r = some (j, u) ∧ VRel G a u) := by
  obtain ⟨ks, xs, h1, _⟩ := key_shape hk
  obtain ⟨d, hu, _⟩ := flat_shape h1
  simp only [Instr.findKey, Sem.run_bind, run_underlying hu, Result.andThen_ok]
  rcases findNow_run hu hv M es 0 he hd with hn | ⟨r, hr, hrel⟩
  · simp only [hn]; exact findAsking_run hv M es 0 he hd
  · simp only [hr]; exact ⟨r, rfl, hrel⟩
end
end Go.VM
end
section
/- Maps: the operations. -/
namespace Go.VM
set_option linter.unusedSectionVars false
variable [Inhabited Globs]
section
variable {P : Program} {G : Ghost} {h : H} {w : World}

theorem erel_of : ∀ {M : List (AV × AV)} {es : List MapEntry}, M.length = es.length → (∀ (i : Nat) (kv : AV × AV) (e : MapEntry), M[i]? = some kv → es[i]? = some e → VRel G kv.1 e.key ∧ VRel G kv.2 e.val) → ERel G M es
  | [], [], _, _ => rfl
  | kv :: M, e :: es, hl, hh => by
    simp only [ERel]
    obtain ⟨h1, h2⟩ := hh 0 kv e rfl rfl
    exact ⟨e, es, rfl, h1, h2, erel_of (by simpa using hl) (fun i kv e a b => hh (i + 1) kv e (by simpa using a) (by simpa using b))⟩
  | [], _ :: _, hl, _ => by simp at hl
  | _ :: _, [], hl, _ => by simp at hl

theorem idx_none {kt : TypeId} {k : AV} : ∀ {M : List (AV × AV)} {i : Nat}, idxOfKey P kt k M i = none → ∀ kv ∈ M, keyIs P kt k kv = false
  | [], _, _, kv, hkv => by cases hkv
  | kv0 :: M, i, h, kv, hkv => by
    simp only [idxOfKey] at h
    split at h
    · cases h
    · rename_i hk
      rcases List.mem_cons.1 hkv with rfl | hkv
      · simpa using hk
      · exact idx_none h kv hkv
theorem idx_some {kt : TypeId} {k : AV} : ∀ {M : List (AV × AV)} {i j : Nat} {a : AV}, idxOfKey P kt k M i = some (j, a) → ∃ kv, i ≤ j ∧ M[j - i]? = some kv ∧ keyIs P kt k kv = true ∧ kv.2 = a
  | [], _, _, _, h => by simp [idxOfKey] at h
  | kv0 :: M, i, j, a, h => by
    simp only [idxOfKey] at h
    split at h
    · rename_i hk
      simp only [Option.some.injEq, Prod.mk.injEq] at h
      obtain ⟨rfl, rfl⟩ := h
      exact ⟨kv0, Nat.le_refl _, by simp, hk, rfl⟩
    · obtain ⟨kv, h1, h2, h3, h4⟩ := idx_some h
      refine ⟨kv, by omega, ?_, h3, h4⟩
      rw [show j - i = (j - (i + 1)) + 1 from by omega]
      simpa using h2

theorem nodup_keys {M : List (AV × AV)} (hn : (M.map (·.1)).Nodup) {a b : AV × AV} (ha : a ∈ M) (hb : b ∈ M) (he : a.1 = b.1) : a = b := by
  obtain ⟨i, hi, rfl⟩ := List.getElem_of_mem ha
  obtain ⟨j, hj, rfl⟩ := List.getElem_of_mem hb
  have : i = j := by
    rw [List.Nodup, List.pairwise_iff_getElem] at hn
    rcases Nat.lt_trichotomy i j with h | h | h
    · exact absurd (by rw [List.getElem_map, List.getElem_map]; exact he) (hn i j (by simpa using hi) (by simpa using hj) h)
    · exact h
    · exact absurd (by rw [List.getElem_map, List.getElem_map]; exact he.symm) (hn j i (by simpa using hj) (by simpa using hi) h)
  subst this; rfl

theorem mfind_of {kt : TypeId} {k : AV} {M M' : List (AV × AV)} (hp : M'.Perm M) (hn : (M.map (·.1)).Nodup) (hspec : ∀ kv ∈ M, keyIs P kt k kv = true ↔ kv.1 = k) :
    (idxOfKey P kt k M' 0 = none → mfind P kt k M = none) ∧ ∀ j a, idxOfKey P kt k M' 0 = some (j, a) → mfind P kt k M = some a := by
  refine ⟨fun h => ?_, fun j a h => ?_⟩
  · have := idx_none h
    simp only [mfind, Option.map_eq_none_iff, List.find?_eq_none]
    intro kv hkv; simp [this kv (hp.mem_iff.2 hkv)]
  · obtain ⟨kv, _, h2, h3, rfl⟩ := idx_some h
    have hm : kv ∈ M := hp.mem_iff.1 (List.mem_of_getElem? h2)
    cases hf : M.find? (keyIs P kt k) with
    | none => exact absurd h3 (by simpa using List.find?_eq_none.1 hf kv hm)
    | some kv' =>
      have hm' := List.mem_of_find?_eq_some hf
      have hk' := List.find?_some hf
      have : kv' = kv := nodup_keys hn hm' hm (((hspec kv' hm').1 hk').trans ((hspec kv hm).1 h3).symm)
      simp [mfind, hf, this]

theorem mapT_eq {t kt et : TypeId} (h : mapT P t = some (kt, et)) : P.underlying t = some (.map kt et) := by
  unfold mapT at h; split at h
  · cases h; assumption
  · cases h

/-- the entries of an abstract map's block -/
theorem theMap_rel (s : SRel G h w) {m : AV} {M : List (AV × AV)} (hm : h.theMap m = some M) {v : Value} (hv : VRel G m v) :
    MOk M ∧ ∃ es : Array MapEntry, (∃ M', M'.Perm M ∧ ERel G M' es.toList) ∧
      (v = .map none ∧ es = #[] ∨ ∃ c clock, v = .map (some c) ∧ w.heap[c]? = some (.map es clock)) := by
  unfold H.theMap at hm
  split at hm
  · simp only [Option.some.injEq] at hm; subst hm
    simp only [VRel] at hv; subst hv
    exact ⟨⟨by simp, by simp⟩, #[], ⟨[], .refl _, rfl⟩, .inl ⟨rfl, rfl⟩⟩
  · rename_i i
    simp only [VRel] at hv
    obtain ⟨c, hc, rfl⟩ := hv
    obtain ⟨M2, es, clock, h1, h2, h3, M', h4, h5, h6, _⟩ := s.map i c hc
    rw [hm] at h1; cases h1
    exact ⟨h3, es, ⟨M', h4, erel_of (by simpa using h5) (by simpa using h6)⟩, .inr ⟨c, clock, rfl, h2⟩⟩
  · cases hm

theorem lookup_ok (s : SRel G h w) {t : TypeId} {m k r : AV} {ok : Bool} (hl : aLookup P t m k ok h = some r) {vm vk : Value} (hm : VRel G m vm) (hk : VRel G k vk) :
    ∃ u, (Instr.lookup t vm vk ok).run P w = .ok u w ∧ VRel G r u := by
  unfold aLookup at hl
  split at hl
  · rename_i kt et M hmt hM
    split at hl
    · rename_i z hz
      obtain ⟨zv, hzr, hzrel⟩ : ∃ zv, (zeroValue et).run P w = .ok zv w ∧ VRel G z zv := by
        unfold zeroA at hz
        split at hz
        · rename_i i hi
          split at hz
          · rename_i zv hzv
            simp only [Option.some.injEq] at hz; subst hz
            exact ⟨zv, by simp [zeroValue, typeInfo, hi, hzv], ofConst_rel G zv⟩
          · cases hz
        · cases hz
      split at hl
      · rename_i hko
        obtain ⟨k1, k2, k3⟩ := keyOk_spec hko
        obtain ⟨hMok, es, ⟨M', hp, he⟩, hv⟩ := theMap_rel s hM hm
        have hd : ∀ kv ∈ M', aEq P kt k kv.1 = some (keyIs P kt k kv) := fun kv hkv => (k3 kv (hp.mem_iff.1 hkv)).1
        obtain ⟨fr, hfr, hcase⟩ := findKey_run (w := w) hk k1 he hd
        obtain ⟨f1, f2⟩ := mfind_of hp hMok.1 (fun kv hkv => (k3 kv hkv).2)
        have hu := mapT_eq hmt
        have hck := checkKey_ok (w := w) k1 hk es.isEmpty
        have hrun : (Instr.lookup t vm vk ok).run P w = .ok (match fr with | some (_, v) => (if ok then .tuple #[v, .bool true] else v) | none => (if ok then .tuple #[zv, .bool false] else zv)) w := by
          rcases hv with ⟨rfl, rfl⟩ | ⟨c, clock, rfl, hc⟩
          · cases fr <;> simp only [Instr.lookup, Sem.run_bind, run_underlying hu, Result.andThen_ok, Sem.run_pure, hck, hfr, hzr]
          · cases fr <;> simp only [Instr.lookup, Sem.run_bind, run_underlying hu, Result.andThen_ok, Sem.run_pure, getObj, Sem.run, hc, hck, hfr, hzr]
        rcases hcase with ⟨c1, rfl⟩ | ⟨j, a, u, c1, rfl, c3⟩
        · rw [f1 c1] at hl
          simp only [Option.some.injEq] at hl; subst hl
          refine ⟨_, hrun, ?_⟩
          cases ok
          · simpa using hzrel
          · simp [VRel, VRels, hzrel]
        · rw [f2 j a c1] at hl
          simp only [Option.some.injEq] at hl; subst hl
          refine ⟨_, hrun, ?_⟩
          cases ok
          · simpa using c3
          · simp [VRel, VRels, c3]
      · cases hl
    · cases hl
  · cases hl

/-- a map's block is written -/
theorem SRel.mapWrite (s : SRel G h w) {m c : Nat} (hc : G.mp m = some c) {es0 : Array MapEntry} {ck0 : Nat} (hh : w.heap[c]? = some (.map es0 ck0)) {M : List (AV × AV)} {es : Array MapEntry} {ck : Nat} (hr : MRel G M es ck) :
    SRel G { h with maps := h.maps.set m M } { w with heap := w.heap.setIfInBounds c (.map es ck) } ∧ Step G h w G { h with maps := h.maps.set m M } { w with heap := w.heap.setIfInBounds c (.map es ck) } := by
  have hlt := lt_of_get hh
  have hoth : ∀ k, k ≠ c → (w.heap.setIfInBounds c (.map es ck))[k]? = w.heap[k]? := fun k hk => by simp [Array.getElem?_setIfInBounds, Ne.symm hk]
  have hsame : (w.heap.setIfInBounds c (.map es ck))[c]? = some (.map es ck) := by simp [Array.getElem?_setIfInBounds, hlt]
  have hnc : ∀ {k : Nat} {arr : Array Value} {e : TypeId} {f : Nat × Nat}, w.heap[k]? = some (.cells arr e f) → k ≠ c := fun hk e => by subst e; rw [hh] at hk; cases hk
  refine ⟨⟨⟨s.dom.φ, s.dom.tk, fun m' c' h' => by simpa using s.dom.mp m' c' h'⟩, ?_, ?_, ?_, ?_, s.injφ, s.φfr, s.φtk, s.tkle, s.injtk, s.injmp, ?_⟩, ?_⟩
  · intro b c' hb
    obtain ⟨cs, arr, e, h1, h2, h3⟩ := s.blk b c' hb
    exact ⟨cs, arr, e, h1, (hoth c'.1 (hnc h2)).trans h2, h3⟩
  · intro t n ht
    obtain ⟨c', cap, size, cur, e, h1, h2, h3⟩ := s.tok t n ht
    exact ⟨c', cap, size, cur, e, h1, (hoth c' (hnc h2)).trans h2, h3⟩
  · intro m' c' hm'
    by_cases e1 : m' = m
    · subst e1
      rw [hc] at hm'; cases hm'
      exact ⟨M, es, ck, by simp [List.getElem?_set, s.dom.mp _ _ hc], hsame, hr⟩
    · obtain ⟨M2, es2, ck2, h1, h2, h3⟩ := s.map m' c' hm'
      exact ⟨M2, es2, ck2, by rw [List.getElem?_set_ne (Ne.symm e1)]; exact h1, (hoth c' (fun e2 => e1 (s.injmp m' m c (e2 ▸ hm') hc))).trans h2, h3⟩
  · intro c' i v hf
    have hcell := s.fr c' i v hf
    have hne : c' ≠ c := fun e => by subst e; simp [World.cell?, hh] at hcell
    rw [World.cell?_of_block (w := w) (a := ⟨c', i, none⟩) (hoth c' hne)]; exact hcell
  · intro β hβ
    obtain ⟨h1, h2, h3, h4⟩ := s.bases β hβ
    exact ⟨h1, h2, by simpa using h3, h4⟩
  · exact ⟨.refl G, rfl, rfl, rfl, by simp, fun k _ hno => hoth k (fun e3 => hno (.inr (.inr ⟨m, e3 ▸ hc⟩))), fun k ho => .inl ho, rfl, ⟨fun _ _ h _ => h, Nat.le_refl _⟩, fun _ _ _ h => .inl h⟩

/-- a new map -/
theorem SRel.newMap (s : SRel G h w) : ∃ G', SRel G' { h with maps := h.maps ++ [[]] } (w.alloc (.map #[] 0)) ∧ Step G h w G' { h with maps := h.maps ++ [[]] } (w.alloc (.map #[] 0)) ∧ G'.mp h.maps.length = some w.heap.size := by
  let G' : Ghost := { G with mp := fun b => if b = h.maps.length then some w.heap.size else G.mp b }
  have hle : G.Le G' := ⟨fun _ _ h => h, fun _ _ _ h => h, fun _ _ _ h => h, fun b c hb => by
    have := s.dom.mp b c hb
    show (if b = h.maps.length then _ else _) = _
    rw [if_neg (by omega)]; exact hb⟩
  have hold : ∀ b c, G'.mp b = some c → (b = h.maps.length ∧ c = w.heap.size) ∨ G.mp b = some c := fun b c hb => by
    by_cases e : b = h.maps.length
    · left; refine ⟨e, ?_⟩; simp [G', e] at hb; exact hb.symm
    · right; simpa [G', e] using hb
  have s1 := s.garbage (.map #[] 0)
  refine ⟨G', ⟨⟨s1.dom.φ, s1.dom.tk, fun b c hb => ?_⟩, ?_, s1.tok, ?_, s1.fr, s1.injφ, s1.φfr, s1.φtk, s1.tkle, s1.injtk, ?_, ?_⟩, ?_, by simp [G']⟩
  · rcases hold b c hb with ⟨rfl, _⟩ | hb
    · simp
    · have := s.dom.mp b c hb; simp; omega
  · intro b c hb
    obtain ⟨cs, arr, e, h1, h2, h2', h3⟩ := s1.blk b c hb
    exact ⟨cs, arr, e, h1, h2, h2', VRels.mono hle _ _ h3⟩
  · intro m c hm
    rcases hold m c hm with ⟨rfl, rfl⟩ | hm
    · refine ⟨[], #[], 0, by simp, heap_alloc_new w _, ⟨⟨by simp, by simp⟩, [], .refl _, rfl, by simp, by simp, by simp⟩⟩
    · obtain ⟨M, es, ck, h1, h2, h3⟩ := s1.map m c hm
      exact ⟨M, es, ck, by rw [List.getElem?_append_left (s.dom.mp m c hm)]; exact h1, h2, h3.mono hle⟩
  · intro m m' c hm hm'
    rcases hold m c hm with ⟨rfl, hc⟩ | h1
    · rcases hold m' c hm' with ⟨rfl, _⟩ | h2
      · rfl
      · exact absurd hc (Nat.ne_of_lt (s.own_lt (.inr (.inr ⟨_, h2⟩))))
    · rcases hold m' c hm' with ⟨_, hc⟩ | h2
      · exact absurd hc (Nat.ne_of_lt (s.own_lt (.inr (.inr ⟨_, h1⟩))))
      · exact s.injmp m m' c h1 h2
  · intro β hβ
    obtain ⟨h1, h2, h3, h4⟩ := s.bases β hβ
    exact ⟨h1, h2, by simp; omega, h4⟩
  · refine ⟨hle, rfl, rfl, rfl, by simp, fun c hc _ => heap_alloc_old w _ c hc, fun c ho => ?_, rfl, ⟨fun _ _ h _ => h, Nat.le_refl _⟩, fun _ _ _ h => .inl h⟩
    rcases ho with ho | ho | ⟨m, hm⟩
    · exact .inl (.inl ho)
    · exact .inl (.inr (.inl ho))
    · rcases hold m c hm with ⟨_, rfl⟩ | hm
      · exact .inr (Nat.le_refl _)
      · exact .inl (.inr (.inr ⟨m, hm⟩))
end
end Go.VM
end
section
/- Maps: storing. -/
namespace Go.VM
set_option linter.unusedSectionVars false
variable [Inhabited Globs]
section
variable {P : Program} {G : Ghost} {h : H} {w : World}

theorem map_modify_unique {kt : TypeId} {k v : AV} {M : List (AV × AV)} {j : Nat} {kv : AV × AV} (hj : M[j]? = some kv) (hk : keyIs P kt k kv = true) (hu : ∀ (i : Nat) (x : AV × AV), M[i]? = some x → keyIs P kt k x = true → i = j) :
    (M.map fun x => if keyIs P kt k x then (k, v) else x) = M.set j (k, v) := by
  apply List.ext_getElem?
  intro i
  simp only [List.getElem?_map, List.getElem?_set]
  by_cases hij : j = i
  · subst hij
    have hlt := (List.getElem?_eq_some_iff.1 hj).1
    have hjg : M[j] = kv := (List.getElem?_eq_some_iff.1 hj).2
    simp [hlt, hjg, hk]
  · rw [if_neg hij]
    cases hx : M[i]? with
    | none => rfl
    | some x =>
      have : ¬ keyIs P kt k x = true := fun h => hij (hu i x hx h).symm
      simp [this]

theorem mapUpdate_ok (s : SRel G h w) {t : TypeId} {m k v : AV} {h' : H} (hu : aMapUpdate P t m k v h = some h') {vm vk vv : Value} (hm : VRel G m vm) (hk : VRel G k vk) (hv : VRel G v vv) :
    ∃ w', (Instr.mapUpdate t vm vk vv).run P w = .ok () w' ∧ Step G h w G h' w' ∧ SRel G h' w' := by
  unfold aMapUpdate at hu
  split at hu
  · rename_i kt et i hmt
    split at hu
    · rename_i M hM
      split at hu
      · rename_i hc
        simp only [Bool.and_eq_true] at hc
        simp only [Option.some.injEq] at hu; subst hu
        obtain ⟨hko, hvb⟩ := hc
        obtain ⟨k1, k2, k3⟩ := keyOk_spec hko
        simp only [VRel] at hm
        obtain ⟨c, hcc, rfl⟩ := hm
        obtain ⟨M2, es, clock, h1, h2, hMok, M', hp, hlen, hrel, hborn, hnd⟩ := s.map i c hcc
        rw [hM] at h1; cases h1
        have he : ERel G M' es.toList := erel_of (by simpa using hlen) (by simpa using hrel)
        have hd : ∀ kv ∈ M', aEq P kt k kv.1 = some (keyIs P kt k kv) := fun kv hkv => (k3 kv (hp.mem_iff.1 hkv)).1
        obtain ⟨fr, hfr, hcase⟩ := findKey_run (w := w) hk k1 he hd
        have hut := mapT_eq hmt
        have hck := checkKey_ok (w := w) k1 hk false
        have hn' : (M'.map (·.1)).Nodup := (hp.map _).nodup_iff.2 hMok.1
        rcases hcase with ⟨c1, rfl⟩ | ⟨j, a, u, c1, rfl, c3⟩
        · -- a new entry
          have hnone := idx_none c1
          have hany : M.any (keyIs P kt k) = false := by
            rw [Bool.eq_false_iff]; intro hq
            obtain ⟨kv, q1, q2⟩ := List.any_eq_true.1 hq
            rw [hnone kv (hp.mem_iff.2 q1)] at q2; cases q2
          have hput : mput P kt k v M = M ++ [(k, v)] := by simp [mput, hany]
          have hM' : MRel G (M ++ [(k, v)]) (es.push { key := vk, val := vv, born := clock }) (clock + 1) := by
            refine ⟨⟨?_, ?_⟩, M' ++ [(k, v)], hp.append_right _, by simp [hlen], ?_, ?_, ?_⟩
            · simp only [List.map_append, List.map_cons, List.map_nil]
              rw [List.nodup_append]
              refine ⟨hMok.1, by simp, fun x hx y hy e => ?_⟩
              simp at hy; subst hy
              obtain ⟨kv, q1, rfl⟩ := List.mem_map.1 hx
              have := (k3 kv q1).2.2 e
              rw [hnone kv (hp.mem_iff.2 q1)] at this; cases this
            · intro kv hkv
              rcases List.mem_append.1 hkv with q | q
              · exact hMok.2 kv q
              · simp at q; subst q; exact ⟨k2, hvb⟩
            · intro i kv e q1 q2
              by_cases hi : i < M'.length
              · rw [List.getElem?_append_left hi] at q1
                have : i < es.size := by omega
                rw [Array.getElem?_push_lt this] at q2
                exact hrel i kv e q1 (by simpa [this] using q2)
              · rw [List.getElem?_append_right (by omega)] at q1
                have hi' : i = es.size := by
                  have := (List.getElem?_eq_some_iff.1 q1).1
                  simp at this; omega
                subst hi'
                simp [hlen] at q1 q2
                subst q1 q2; exact ⟨hk, hv⟩
            · intro e he'
              simp at he'
              rcases he' with q | rfl
              · have := hborn e (by simpa using q); omega
              · simp
            · simp only [Array.toList_push, List.map_append, List.map_cons, List.map_nil]
              rw [List.nodup_append]
              refine ⟨hnd, by simp, fun x hx y hy e => ?_⟩
              simp at hy; subst hy
              obtain ⟨e', q1, rfl⟩ := List.mem_map.1 hx
              have := hborn e' q1; omega
          obtain ⟨sA, stA⟩ := s.mapWrite hcc h2 hM'
          rw [hput]
          refine ⟨_, ?_, stA, sA⟩
          simp only [Instr.mapUpdate, Sem.run_bind, run_underlying hut, Result.andThen_ok, getObj, setObj, Sem.run, h2, hck, hfr]
        · obtain ⟨kv, _, q2, q3, rfl⟩ := idx_some c1
          simp only [Nat.sub_zero] at q2
          have hkk : kv.1 = k := (k3 kv (hp.mem_iff.1 (List.mem_of_getElem? q2))).2.1 q3
          have hjlt : j < es.size := by have := (List.getElem?_eq_some_iff.1 q2).1; omega
          have hje : es[j]? = some es[j] := by simp [hjlt]
          obtain ⟨r1, r2⟩ := hrel j kv es[j] q2 hje
          rw [hkk] at r1
          have hkeyeq : es[j].key = vk := (key_rel k2 hk).1 G _ r1
          have hany : M.any (keyIs P kt k) = true := List.any_eq_true.2 ⟨kv, hp.mem_iff.1 (List.mem_of_getElem? q2), q3⟩
          have hput : mput P kt k v M = M.map fun x => if keyIs P kt k x then (k, v) else x := by simp [mput, hany]
          have huniq : ∀ (i : Nat) (x : AV × AV), M'[i]? = some x → keyIs P kt k x = true → i = j := fun i x hx hkx => by
            have hxe : x = kv := nodup_keys hn' (List.mem_of_getElem? hx) (List.mem_of_getElem? q2) (((k3 x (hp.mem_iff.1 (List.mem_of_getElem? hx))).2.1 hkx).trans hkk.symm)
            subst hxe
            obtain ⟨hi, hi'⟩ := List.getElem?_eq_some_iff.1 hx
            obtain ⟨hj, hj'⟩ := List.getElem?_eq_some_iff.1 q2
            rw [List.Nodup, List.pairwise_iff_getElem] at hn'
            rcases Nat.lt_trichotomy i j with q | q | q
            · exact absurd (by rw [List.getElem_map, List.getElem_map, hi', hj']) (hn' i j (by simpa using hi) (by simpa using hj) q)
            · exact q
            · exact absurd (by rw [List.getElem_map, List.getElem_map, hi', hj']) (hn' j i (by simpa using hj) (by simpa using hi) q)
          have hmod := map_modify_unique (v := v) q2 q3 huniq
          have hM' : MRel G (M.map fun x => if keyIs P kt k x then (k, v) else x) (es.modify j fun e => { e with key := vk, val := vv }) clock := by
            refine ⟨⟨?_, ?_⟩, M'.map fun x => if keyIs P kt k x then (k, v) else x, hp.map _, by simp [hlen], ?_, ?_, ?_⟩
            · have : (M.map fun x => if keyIs P kt k x then (k, v) else x).map (·.1) = M.map (·.1) := by
                rw [List.map_map]
                apply List.map_congr_left
                intro x hx
                simp only [Function.comp]
                split
                · rename_i hq; exact ((k3 x hx).2.1 hq).symm
                · rfl
              rw [this]; exact hMok.1
            · intro x hx
              obtain ⟨y, hy, rfl⟩ := List.mem_map.1 hx
              split
              · exact ⟨k2, hvb⟩
              · exact hMok.2 y hy
            · intro i x e g1 g2
              rw [hmod] at g1
              simp only [Array.getElem?_modify] at g2
              rw [List.getElem?_set] at g1
              by_cases hij : j = i
              · subst hij
                rw [if_pos rfl] at g1 g2
                rw [hje] at g2
                split at g1
                · simp at g1 g2; subst g1 g2; exact ⟨hk, hv⟩
                · cases g1
              · rw [if_neg hij] at g1 g2
                exact hrel i x e g1 g2
            · intro e he'
              obtain ⟨i, hi⟩ := List.getElem?_of_mem he'
              simp only [Array.getElem?_toList, Array.getElem?_modify] at hi
              split at hi
              · rename_i hij; subst hij
                rw [hje] at hi; simp at hi; subst hi
                exact hborn es[j] (by simp)
              · exact hborn e (List.mem_of_getElem? (by simpa using hi))
            · have : (es.modify j fun e => { e with key := vk, val := vv }).toList.map (·.born) = es.toList.map (·.born) := by
                apply List.ext_getElem?
                intro i
                simp only [List.getElem?_map, Array.getElem?_toList, Array.getElem?_modify]
                split
                · cases es[i]? <;> rfl
                · rfl
              rw [this]; exact hnd
          obtain ⟨sA, stA⟩ := s.mapWrite hcc h2 hM'
          rw [hput]
          refine ⟨_, ?_, stA, sA⟩
          have hst : (Instr.keyThatStays vk vk).run P w = .ok vk w := by
            have := (key_rel k2 hk).2 9999
            simp only [Instr.keyThatStays, this, if_true, Sem.run_pure]
          simp only [Instr.mapUpdate, Sem.run_bind, run_underlying hut, Result.andThen_ok, getObj, setObj, Sem.run, h2, hck, hfr, hje, Option.map_some, Option.getD_some, hkeyeq, hst]
      · cases hu
    · cases hu
  · cases hu

theorem makeMap_ok (s : SRel G h w) {t : TypeId} {A : List AV} {a : Act} (r : ARel G A a) {x : Option Operand} (hm : (mapT P t).isSome) {i : Option Int} (hi : intOf? (x.map (aev A)) = some i) :
    RunOk P G h w (Instr.makeMap t (x.map a.eval)) (.map h.maps.length) { h with maps := h.maps ++ [[]] } := by
  obtain ⟨⟨kt, et⟩, hmt⟩ := Option.isSome_iff_exists.1 hm
  obtain ⟨G', s', st, hmp⟩ := s.newMap
  refine ⟨.map (some w.heap.size), _, G', ?_, st, s', by simp only [VRel]; exact ⟨_, hmp, rfl⟩⟩
  rcases intOf_rel hi (opt_rel r x) with ⟨_, e⟩ | ⟨k, n, _, e⟩
  · rw [e]; simp [Instr.makeMap]
  · rw [e]; simp [Instr.makeMap, run_underlying (mapT_eq hmt), asInt, asIntOf]
end
end Go.VM
end
section
/- Every abstract operation is right. -/
namespace Go.VM
set_option linter.unusedSectionVars false
variable [Inhabited Globs]

def callable (P : Program) (f : FuncId) : Bool :=
  match P.funcs[f]? with
  | some fn => !(fn.name == "runtime.NumGoroutine") && fn.body.isSome
  | none => false

/-- a call that comes to one value and one heap -/
def CallOk (P : Program) (f : FuncId) (args : List AV) (h : H) (v : AV) (h' : H) : Prop :=
  ∀ G w (vs : List Value), SRel G h w → GlobOk G → VRels G args vs →
    Calls P f vs.toArray w (fun e w' => ∃ G' u, e = .returned u ∧ Step G h w G' h' w' ∧ SRel G' h' w' ∧ VRel G' v u)

/-- the same, where no frame rests on more than the first nb blocks -/
def CallOkB (P : Program) (nb : Nat) (f : FuncId) (args : List AV) (h : H) (v : AV) (h' : H) : Prop :=
  ∀ G w (vs : List Value), SRel G h w → (∀ γ ∈ G.bases, γ.1 ≤ nb) → GlobOk G → VRels G args vs →
    Calls P f vs.toArray w (fun e w' => ∃ G' u, e = .returned u ∧ Step G h w G' h' w' ∧ SRel G' h' w' ∧ VRel G' v u)
theorem CallOk.b {P : Program} {f : FuncId} {args : List AV} {h : H} {v : AV} {h' : H} (k : CallOk P f args h v h') (nb : Nat) : CallOkB P nb f args h v h' := fun G w vs s _ hg hr => k G w vs s hg hr
def SummB (P : Program) (nb : Nat) (S : Summ) : Prop := ∀ f args h v h', S f args h = some (v, h') → callable P f = true ∧ CallOkB P nb f args h v h'

def SummOk (P : Program) (S : Summ) : Prop := ∀ f args h v h', S f args h = some (v, h') → callable P f = true ∧ CallOk P f args h v h'

theorem SummOk.b {P : Program} {S : Summ} (k : SummOk P S) {nb : Nat} : SummB P nb S := fun f args h v h' he => ⟨(k f args h v h' he).1, (k f args h v h' he).2.b nb⟩

section
variable {P : Program} {G : Ghost} {h : H} {w : World}

theorem callFunc_run {f : FuncId} (hc : callable P f = true) (args : Array Value) : (callFunc f args).run P w = .ok (.enter f args) w := by
  unfold callable at hc
  split at hc
  · rename_i fn hfn
    simp only [Bool.and_eq_true, Bool.not_eq_true', beq_eq_false_iff_ne] at hc
    have hn : (fn.name == "runtime.NumGoroutine") = false := by simpa using hc.1
    have hb : fn.body.isNone = false := by cases hq : fn.body <;> simp_all
    simp only [callFunc, Sem.run_bind, run_program, Result.andThen_ok, hfn, hn, Bool.false_eq_true, if_false, hb, Sem.run_pure]
  · cases hc

theorem wp_value {o : Oper} {a : Act} {K : Act → World → Prop} {Q : Exit → Act → World → Prop} {u : Value} {w' : World} (hr : (execOp a.eval o).run P w = .ok (.value u) w') (hK : K (a.put o.dst u) w') : o.wp P a w K Q := by
  unfold Oper.wp; rw [hr]; exact hK
theorem wp_skip' {o : Oper} {a : Act} {K : Act → World → Prop} {Q : Exit → Act → World → Prop} {w' : World} (hr : (execOp a.eval o).run P w = .ok .skip w') (hK : K (a.put o.dst undef) w') : o.wp P a w K Q := by
  unfold Oper.wp; rw [hr]; exact hK

theorem undef_rel (G : Ghost) : VRel G .undef undef := by simp [VRel, VRels, undef, AV.undef]

theorem args_map {A : List AV} {a : Act} (r : ARel G A a) (xs : Array Operand) : VRels G (xs.toList.map (aev A)) (xs.map a.eval).toList := by
  rw [Array.toList_map]; exact rels_map r _

theorem copy_ok (s : SRel G h w) {β : Base} (hβ : ∀ γ ∈ G.bases, γ.1 ≤ β.nb) {t t' ty : TypeId} {x y r : AV} {h' : H} (ha : aCopy P β t x y h = some (r, h')) {vx vy : Value} (hx : VRel G x vx) (hy : VRel G y vy) :
    RunOk P G h w (Builtin.copy_ #[t, t'] ty #[vx, vy]) r h' := by
  unfold aCopy at ha
  split at ha
  · rename_i e he
    have hu := elemT_eq he
    split at ha
    · rename_i z hz
      split at ha
      · rename_i b o n cap0 z0 ys m hsrc
        split at ha
        · rename_i old hold
          split at ha
          · rename_i hc
            simp only [Bool.and_eq_true, decide_eq_true_eq, Bool.or_eq_true, beq_iff_eq] at hc
            obtain ⟨⟨⟨c1, c2⟩, c3⟩, c4⟩ := hc
            simp only [Option.some.injEq, Prod.mk.injEq] at ha
            obtain ⟨rfl, rfl⟩ := ha
            have hsy := src_rel s hsrc c1 hy
            simp only [VRel] at hx
            obtain ⟨c, hcb, cap', rfl, _⟩ := hx
            obtain ⟨cs1, arr, e1, k1, k2, _, k3⟩ := s.blk b c hcb
            rw [hold] at k1; cases k1
            have hl2 := k3.length
            have hle : old.length ≤ arr.toList.length := by have := hl2; rw [List.length_take] at this; omega
            -- what is copied
            obtain ⟨vs, q1, q2, q3⟩ : ∃ vs : List Value, (Builtin.firstCells z (min m n) vy).run P w = .ok vs.toArray w ∧ (Builtin.lenOf vy).run P w = .ok m w ∧ VRels G (ys.take (min m n * z)) vs := by
              rcases hsy with ⟨rfl | ⟨a, rfl⟩, rfl, rfl⟩ | ⟨c2', o2, cap2, vs, rfl, hvs, hcell⟩
              · exact ⟨[], by rw [run_firstCells_none], by simp [Builtin.lenOf], by simp [VRels]⟩
              · have hf := run_firstCells_some (P := P) w z (min 0 n) a 0 0 [] (by simp) (by simp)
                exact ⟨[], hf, by simp [Builtin.lenOf], by simp [VRels]⟩
              · have hvl := hvs.length
                have hml : min m n * z ≤ m * z := Nat.mul_le_mul_right z (Nat.min_le_left m n)
                have hf := run_firstCells_some (P := P) w z (min m n) ⟨c2', o2, none⟩ m cap2 (vs.take (min m n * z)) (by rw [List.length_take]; omega) (fun j u hu => by
                  rw [addr_add]
                  rw [List.getElem?_take] at hu
                  split at hu
                  · exact hcell j u hu
                  · cases hu)
                exact ⟨_, hf, by simp [Builtin.lenOf], hvs.take _⟩
            have hl1 := q3.length
            have hlt : (ys.take (min m n * z)).length = min m n * z := by
              have hml : min m n * z ≤ m * z := Nat.mul_le_mul_right z (Nat.min_le_left m n)
              rw [List.length_take]; omega
            have hst := storeCells_run (P := P) (o := o) k2 vs (by simp only [Array.length_toList] at hle; omega) (rels_one q3 c3)
            have hmn : Nat.min m n = min m n := rfl
            have e0 : (#[t, t'] : Array TypeId)[0]? = some t := rfl
            have e1 : (#[.slice (some ⟨c.1, o, none⟩) n cap', vy] : Array Value)[0]? = some (.slice (some ⟨c.1, o, none⟩) n cap') := rfl
            have e2 : (#[.slice (some ⟨c.1, o, none⟩) n cap', vy] : Array Value)[1]? = some vy := rfl
            by_cases hne : old = []
            · subst hne
              have hz0 : min m n * z = 0 := by simp at c2; omega
              have hv0 : vs = [] := List.eq_nil_of_length_eq_zero (by omega)
              subst hv0
              have hb' := (List.getElem?_eq_some_iff.1 hold).1
              have hh : { h with blk := h.blk.set b (putAt [] o (ys.take (min m n * z))) } = h := by
                have e1 : putAt ([] : List AV) o (ys.take (min m n * z)) = [] := by rw [hz0]; simp [putAt]
                have e2 : h.blk.set b [] = h.blk := by
                  apply List.ext_getElem?
                  intro i
                  by_cases hi : b = i
                  · subst hi; rw [List.getElem?_set_self hb', hold]
                  · rw [List.getElem?_set_ne hi]
                rw [e1, e2]
              rw [hh]
              have hst0 : (storeCells (⟨c.1, o, none⟩ : Addr) []).run P w = .ok () w := rfl
              refine ⟨goInt (min m n : Nat), w, G, ?_, .refl _ _ _, s, by simp [VRel, goInt]⟩
              simp [Builtin.copy_, e0, e1, e2, run_underlying hu, q2, run_sizeT hz, hmn, q1, hst0]
            obtain ⟨sA, stA⟩ := s.write hcb (by rw [hold]; intro q; cases q; exact hne rfl) k2 (hsz := by
                simp only [List.size_toArray, List.length_append, List.length_take, List.length_drop, Array.length_toList]
                simp only [Array.length_toList] at hle; omega) (hcs' := by
                intro q; have := congrArg List.length q; rw [putAt_len (by rw [hlt]; exact c2)] at this
                exact hne (List.eq_nil_of_length_eq_zero this)) (arr' := (arr.toList.take o ++ vs ++ arr.toList.drop (o + vs.length)).toArray) (cs' := putAt old o (ys.take (min m n * z))) (by
              rw [putAt_len (by rw [hlt]; exact c2)]
              have := take_put arr.toList vs (o := o) (L := old.length) (by rw [← hl1, hlt]; exact c2) hle
              rw [List.toList_toArray, this]; exact putAt_rel k3 q3 o) (by
              intro γ hγ hb
              obtain ⟨b1, b2, b3, b4⟩ := s.bases γ hγ
              have hold' := b4 b c old hcb hb hold
              rcases c4 with h4 | h4
              · have := hβ γ hγ; omega
              · unfold putAt
                rw [bnds_append, bnds_append]
                simp only [Bool.and_eq_true]
                exact ⟨⟨bnds_take _ hold', AV.bnds_mono (by omega) (Nat.zero_le _) (Nat.zero_le _) _ h4⟩, bnds_drop _ hold'⟩)
            refine ⟨goInt (min m n : Nat), _, G, ?_, stA, sA, by simp [VRel, goInt]⟩
            simp [Builtin.copy_, e0, e1, e2, run_underlying hu, q2, run_sizeT hz, hmn, q1, hst]
          · cases ha
        · cases ha
      · cases ha
    · cases ha
  · cases ha

theorem aop_ok {S : Summ} {β : Base} (hS : SummB P β.nb S) (s : SRel G h w) (hβ : ∀ γ ∈ G.bases, γ.1 ≤ β.nb) {A : List AV} {a : Act} (r : ARel G A a) {o : Oper} {v : AV} {h' : H} (he : aop P S β o A h = some (v, h'))
    {K : Act → World → Prop} {Q : Exit → Act → World → Prop} (hK : ∀ G' w' u, Step G h w G' h' w' → SRel G' h' w' → VRel G' v u → K (a.put o.dst u) w') : o.wp P a w K Q := by
  -- the three ways in which an operation ends
  have quiet : ∀ {x : Sem Value} {u : Value}, execOp a.eval o = (do pure (.value (← x))) → x.run P w = .ok u w → VRel G v u → h' = h → o.wp P a w K Q := fun {x u} e hr hv hh => by
    subst hh
    exact wp_value (u := u) (w' := w) (by rw [e]; simp [hr]) (hK G w u (.refl _ _ _) s hv)
  have ran : ∀ {x : Sem Value}, execOp a.eval o = (do pure (.value (← x))) → RunOk P G h w x v h' → o.wp P a w K Q := fun {x} e hr => by
    obtain ⟨u, w', G', h1, h2, h3, h4⟩ := hr
    exact wp_value (u := u) (w' := w') (by rw [e]; simp [h1]) (hK G' w' u h2 h3 h4)
  have wrote : ∀ {x : Sem Unit}, execOp a.eval o = (do x; pure .skip) → (∃ w', x.run P w = .ok () w' ∧ Step G h w G h' w' ∧ SRel G h' w') → v = .undef → o.wp P a w K Q := fun {x} e hr hv => by
    obtain ⟨w', h1, h2, h3⟩ := hr
    subst hv
    exact wp_skip' (w' := w') (by rw [e]; simp [h1]) (hK G w' undef h2 h3 (undef_rel G))
  cases hop : o.op <;> simp only [aop, hop, reduceCtorEq] at he
  case move x =>
    simp only [Option.some.injEq, Prod.mk.injEq] at he; obtain ⟨rfl, rfl⟩ := he
    exact wp_value (u := a.eval x) (w' := w) (by simp [execOp, hop]) (hK G w _ (.refl _ _ _) s (aev_rel r x))
  case assign x =>
    simp only [Option.some.injEq, Prod.mk.injEq] at he; obtain ⟨rfl, rfl⟩ := he
    exact wp_value (u := a.eval x) (w' := w) (by simp [execOp, hop]) (hK G w _ (.refl _ _ _) s (aev_rel r x))
  case pick c x y =>
    have hc := aev_rel r c
    split at he
    · rename_i t ht
      rw [ht] at hc; simp only [VRel] at hc
      simp only [Option.some.injEq, Prod.mk.injEq] at he; obtain ⟨rfl, rfl⟩ := he
      refine wp_value (u := if t then a.eval x else a.eval y) (w' := w) ?_ (hK G w _ (.refl _ _ _) s ?_)
      · simp [execOp, hop, hc, asBool]
      · cases t
        · simpa using aev_rel r y
        · simpa using aev_rel r x
    · cases he
  case alloc e =>
    rw [Option.map_eq_some_iff] at he
    obtain ⟨z, hz, he⟩ := he
    simp only [Prod.mk.injEq] at he; obtain ⟨rfl, rfl⟩ := he
    exact ran (by simp only [execOp, hop]) (alloc_ok s hz)
  case box e x =>
    rw [Option.map_eq_some_iff] at he
    obtain ⟨z, hz, he⟩ := he
    simp only [Prod.mk.injEq] at he; obtain ⟨rfl, rfl⟩ := he
    exact ran (x := Instr.box e (a.eval x)) (by simp only [execOp, hop]) (box_ok s (aev_rel r x) hz)
  case build t parts =>
    rw [Option.map_eq_some_iff] at he
    obtain ⟨z, hz, he⟩ := he
    simp only [Prod.mk.injEq] at he; obtain ⟨rfl, rfl⟩ := he
    obtain ⟨u, h1, h2⟩ := build_ok (w := w) r hz
    exact quiet (by simp only [execOp, hop]) h1 h2 rfl
  case buildSlice t len parts =>
    rw [Option.map_eq_some_iff] at he
    obtain ⟨z, hz, he⟩ := he
    simp only [Prod.mk.injEq] at he; obtain ⟨rfl, rfl⟩ := he
    exact ran (by simp only [execOp, hop]) (buildSlice_ok s r hz)
  case load t x =>
    split at he
    · rename_i cs hcs
      rw [Option.map_eq_some_iff] at he
      obtain ⟨z, hz, he⟩ := he
      simp only [Prod.mk.injEq] at he; obtain ⟨rfl, rfl⟩ := he
      exact ran (by simp only [execOp, hop]) (load_ok s (aev_rel r x) hcs hz)
    · cases he
  case store t p x =>
    rw [Option.map_eq_some_iff] at he
    obtain ⟨z, hz, he⟩ := he
    simp only [Prod.mk.injEq] at he; obtain ⟨rfl, rfl⟩ := he
    exact wrote (by simp only [execOp, hop]) (store_ok s hβ (aev_rel r p) (aev_rel r x) hz) rfl
  case nilCheck x =>
    have hx := aev_rel r x
    split at he
    · rename_i b k hb
      rw [hb] at hx
      simp only [Option.some.injEq, Prod.mk.injEq] at he; obtain ⟨rfl, rfl⟩ := he
      have hx' := hx
      simp only [VRel] at hx'
      obtain ⟨c, _, e⟩ := hx'
      exact wp_value (u := a.eval x) (w' := w) (by simp [execOp, hop, e]) (hK G w _ (.refl _ _ _) s hx)
    · rename_i cs hb
      rw [hb] at hx
      simp only [Option.some.injEq, Prod.mk.injEq] at he; obtain ⟨rfl, rfl⟩ := he
      have hx' := hx
      simp only [VRel] at hx'
      obtain ⟨c, o', vs, e, _⟩ := hx'
      exact wp_value (u := a.eval x) (w' := w) (by simp [execOp, hop, e]) (hK G w _ (.refl _ _ _) s hx)
    · cases he
  case binOp op t x y ty =>
    rw [Option.map_eq_some_iff] at he
    obtain ⟨z, hz, he⟩ := he
    simp only [Prod.mk.injEq] at he; obtain ⟨rfl, rfl⟩ := he
    obtain ⟨u, h1, h2⟩ := bin_ok (w := w) hz (aev_rel r x) (aev_rel r y) x y
    exact quiet (by simp only [execOp, hop]) h1 h2 rfl
  case unOp op t x =>
    rw [Option.map_eq_some_iff] at he
    obtain ⟨z, hz, he⟩ := he
    simp only [Prod.mk.injEq] at he; obtain ⟨rfl, rfl⟩ := he
    obtain ⟨u, h1, h2⟩ := un_ok (P := P) (w := w) hz (aev_rel r x)
    exact quiet (by simp only [execOp, hop]) h1 h2 rfl
  case convert t t' x =>
    rw [Option.map_eq_some_iff] at he
    obtain ⟨z, hz, he⟩ := he
    simp only [Prod.mk.injEq] at he; obtain ⟨rfl, rfl⟩ := he
    obtain ⟨u, h1, h2⟩ := convert_ok (w := w) hz (aev_rel r x)
    exact quiet (by simp only [execOp, hop]) h1 h2 rfl
  case makeMap t x =>
    split at he
    · rename_i p i hp hi
      simp only [Option.some.injEq, Prod.mk.injEq] at he; obtain ⟨rfl, rfl⟩ := he
      exact ran (x := Instr.makeMap t (x.map a.eval)) (by simp only [execOp, hop]) (makeMap_ok s r (by rw [hp]; rfl) hi)
    · cases he
  case makeSlice t l c =>
    have hl := aev_rel r l
    have hc := aev_rel r c
    split at he
    · rename_i nl nc e1 e2
      rw [e1] at hl; rw [e2] at hc
      simp only [VRel] at hl hc
      exact ran (by simp only [execOp, hop, hl, hc]) (make_ok s he)
    · cases he
  case slice t x lo hi mx =>
    rw [Option.map_eq_some_iff] at he
    obtain ⟨z, hz, he⟩ := he
    simp only [Prod.mk.injEq] at he; obtain ⟨rfl, rfl⟩ := he
    obtain ⟨u, h1, h2⟩ := slice_ok (w := w) hz (aev_rel r x) (opt_rel r lo) (opt_rel r hi) (opt_rel r mx)
    exact quiet (by simp only [execOp, hop]) h1 h2 rfl
  case fieldAddr t x f =>
    rw [Option.map_eq_some_iff] at he
    obtain ⟨z, hz, he⟩ := he
    simp only [Prod.mk.injEq] at he; obtain ⟨rfl, rfl⟩ := he
    obtain ⟨u, h1, h2⟩ := fieldAddr_ok (w := w) hz (aev_rel r x)
    exact quiet (by simp only [execOp, hop]) h1 h2 rfl
  case field t x f =>
    rw [Option.map_eq_some_iff] at he
    obtain ⟨z, hz, he⟩ := he
    simp only [Prod.mk.injEq] at he; obtain ⟨rfl, rfl⟩ := he
    obtain ⟨u, h1, h2⟩ := field_ok (w := w) hz (aev_rel r x)
    exact quiet (by simp only [execOp, hop]) h1 h2 rfl
  case indexAddr t x ix =>
    rw [Option.map_eq_some_iff] at he
    obtain ⟨z, hz, he⟩ := he
    simp only [Prod.mk.injEq] at he; obtain ⟨rfl, rfl⟩ := he
    obtain ⟨u, h1, h2⟩ := indexAddr_ok (w := w) hz (aev_rel r x) (aev_rel r ix)
    exact quiet (by simp only [execOp, hop]) h1 h2 rfl
  case index t x ix =>
    rw [Option.map_eq_some_iff] at he
    obtain ⟨z, hz, he⟩ := he
    simp only [Prod.mk.injEq] at he; obtain ⟨rfl, rfl⟩ := he
    obtain ⟨u, h1, h2⟩ := index_ok (w := w) hz (aev_rel r x) (aev_rel r ix)
    exact quiet (by simp only [execOp, hop]) h1 h2 rfl
  case lookup t x ix ok =>
    rw [Option.map_eq_some_iff] at he
    obtain ⟨z, hz, he⟩ := he
    simp only [Prod.mk.injEq] at he; obtain ⟨rfl, rfl⟩ := he
    obtain ⟨u, h1, h2⟩ := lookup_ok s hz (aev_rel r x) (aev_rel r ix)
    exact quiet (by simp only [execOp, hop]) h1 h2 rfl
  case mapUpdate t m k x =>
    rw [Option.map_eq_some_iff] at he
    obtain ⟨z, hz, he⟩ := he
    simp only [Prod.mk.injEq] at he; obtain ⟨rfl, rfl⟩ := he
    exact wrote (by simp only [execOp, hop]) (mapUpdate_ok s hz (aev_rel r m) (aev_rel r k) (aev_rel r x)) rfl
  case insert t m k x =>
    rw [Option.map_eq_some_iff] at he
    obtain ⟨z, hz, he⟩ := he
    simp only [Prod.mk.injEq] at he; obtain ⟨rfl, rfl⟩ := he
    exact wrote (by simp only [execOp, hop]) (mapUpdate_ok s hz (aev_rel r m) (aev_rel r k) (aev_rel r x)) rfl
  case extract t i =>
    have ht := aev_rel r t
    split at he
    · rename_i vs hvs
      rw [hvs] at ht; simp only [VRel] at ht
      obtain ⟨us, hus, hrel⟩ := ht
      rw [Option.map_eq_some_iff] at he
      obtain ⟨z, hz, he⟩ := he
      simp only [Prod.mk.injEq] at he; obtain ⟨rfl, rfl⟩ := he
      obtain ⟨u, h1, h2⟩ := hrel.get i z hz
      have h1' : us[i]? = some u := by simpa using h1
      exact quiet (x := Instr.extract (a.eval t) i) (u := u) (by simp only [execOp, hop]) (by rw [hus]; simp [Instr.extract, h1']) h2 rfl
    · cases he
  case makeFunc f fs cs =>
    simp only [Option.some.injEq, Prod.mk.injEq] at he; obtain ⟨rfl, rfl⟩ := he
    exact quiet (x := Instr.makeFunc f (fs.map a.eval) (cs.map a.eval)) (u := .func f (fs.map a.eval) (cs.map a.eval)) (by simp only [execOp, hop]) (by simp [Instr.makeFunc])
      (by simp only [VRel]; exact ⟨_, _, rfl, args_map r fs, args_map r cs⟩) rfl
  case call c =>
    split at he
    · rename_i f hcal
      have hf := aev_rel r f
      unfold aCall at he
      split at he
      · rename_i i first cap hfn
        rw [hfn] at hf
        simp only [VRel] at hf
        obtain ⟨fs, cs, hfv, hr1, hr2⟩ := hf
        obtain ⟨hc, hcall⟩ := hS _ _ _ _ _ he
        have hargs : VRels G (first ++ c.args.toList.map (aev A) ++ cap) (fs ++ c.args.map a.eval ++ cs).toList := by
          simp only [Array.toList_append]
          exact (hr1.append (args_map r c.args)).append hr2
        have hrun : (execOp a.eval o).run P w = .ok (.enter i (fs ++ c.args.map a.eval ++ cs)) w := by
          simp only [execOp, hop, resolve, hcal, hfv, Deferred.ofValue, Sem.run_bind, Sem.run_pure, Result.andThen_ok, invoke]
          exact callFunc_run hc _
        unfold Oper.wp; rw [hrun, Oper.upon_enter]
        have := hcall G w _ s hβ r.gl hargs
        rw [Array.toArray_toList] at this
        refine Calls.mono this ?_
        rintro e w' ⟨G', u, rfl, h1, h2, h3⟩
        exact hK G' w' u h1 h2 h3
      · cases he
    · rename_i b hcal
      have hbase : ∀ {x : Sem Value}, (∀ consts, builtin b c.argTypes o.type consts (c.args.map a.eval) = (do pure (.value (← x)))) → execOp a.eval o = (do pure (.value (← x))) := fun {x} hb => by
        simp only [execOp, hop, resolve, hcal]
        simp only [pure_bind, invoke, hb]
      have hxs := args_map r c.args
      split at he
      · rename_i x t ts hargs hts
        rw [hargs] at hxs
        obtain ⟨u, hu, hrel⟩ := rels_one' hxs
        have hu' : c.args.map a.eval = #[u] := by apply Array.ext'; simpa using hu
        rw [Option.map_eq_some_iff] at he
        obtain ⟨z, hz, he⟩ := he
        simp only [Prod.mk.injEq] at he; obtain ⟨rfl, rfl⟩ := he
        obtain ⟨u', h1, h2⟩ := len_ok s hz hrel c.argTypes (by rw [← Array.getElem?_toList, hts]; rfl) o.type
        exact quiet (hbase (x := Builtin.len_ c.argTypes o.type #[u]) (fun consts => by rw [hu']; rfl)) h1 h2 rfl
      · rw [Option.map_eq_some_iff] at he
        obtain ⟨z, hz, he⟩ := he
        simp only [Prod.mk.injEq] at he; obtain ⟨rfl, rfl⟩ := he
        obtain ⟨u', h1, h2⟩ := min_ok (P := P) (w := w) false hz hxs c.argTypes o.type
        simp only [Bool.false_eq_true, if_false, Array.toArray_toList] at h1
        exact quiet (hbase (x := Builtin.min_ c.argTypes o.type (c.args.map a.eval)) (fun consts => rfl)) h1 h2 rfl
      · rw [Option.map_eq_some_iff] at he
        obtain ⟨z, hz, he⟩ := he
        simp only [Prod.mk.injEq] at he; obtain ⟨rfl, rfl⟩ := he
        obtain ⟨u', h1, h2⟩ := min_ok (P := P) (w := w) true hz hxs c.argTypes o.type
        simp only [if_true, Array.toArray_toList] at h1
        exact quiet (hbase (x := Builtin.max_ c.argTypes o.type (c.args.map a.eval)) (fun consts => rfl)) h1 h2 rfl
      · rename_i x y t t' hargs hts
        rw [hargs] at hxs
        simp only [VRels] at hxs
        obtain ⟨ux, _, hu, hrx, uy, _, rfl, hry, rfl⟩ := hxs
        have hu' : c.args.map a.eval = #[ux, uy] := by apply Array.ext'; simpa using hu
        have ht' : c.argTypes = #[t, t'] := by apply Array.ext'; simpa using hts
        exact ran (hbase (x := Builtin.append_ #[t, t'] o.type #[ux, uy]) (fun consts => by rw [hu', ht']; rfl)) (append_ok s he hrx hry)
      · rename_i x y t t' hargs hts
        rw [hargs] at hxs
        simp only [VRels] at hxs
        obtain ⟨ux, _, hu, hrx, uy, _, rfl, hry, rfl⟩ := hxs
        have hu' : c.args.map a.eval = #[ux, uy] := by apply Array.ext'; simpa using hu
        have ht' : c.argTypes = #[t, t'] := by apply Array.ext'; simpa using hts
        exact ran (hbase (x := Builtin.copy_ #[t, t'] o.type #[ux, uy]) (fun consts => by rw [hu', ht']; rfl)) (copy_ok s hβ he hrx hry)
      · cases he
    · cases he
end
end Go.VM
end
section
/- Whole bodies: regions, branches, loops. -/
namespace Go.VM
set_option linter.unusedSectionVars false
variable [Inhabited Globs]

inductive AX where
  | normal | exit (n : Nat) | ret
  deriving DecidableEq, Inhabited
def AX.toExit : AX → Exit
  | .normal => .normal
  | .exit n => .exit n
  | .ret => .ret

def awant (ops : Array Oper) (A : List AV) (o : Oper) : Option Bool :=
  match o.guard with
  | none => some true
  | some (j, want) =>
    match (ops[j]?).bind (·.dst) with
    | none => some false
    | some d =>
      match A[d]? with
      | some (.bool b) => some (b == want)
      | some (.tup _) => some false
      | none => some false
      | _ => none

def arun (P : Program) (S : Summ) (β : Base) (ops : Array Oper) : List Oper → List AV → H → Option (List AV × H)
  | [], A, h => some (A, h)
  | o :: rest, A, h =>
    match awant ops A o with
    | some true =>
      match aop P S β o A h with
      | some (v, h') => arun P S β ops rest (putA A o.dst v) h'
      | none => none
    | some false => arun P S β ops rest (putA A o.dst .undef) h
    | none => none

section
variable {P : Program} {G : Ghost} {h : H} {w : World}

theorem awant_ok {ops : Array Oper} {A : List AV} {a : Act} (r : ARel G A a) {o : Oper} {b : Bool} (hw : awant ops A o = some b) : Region.wanted o (yielded ops a.tmps) = b := by
  unfold awant at hw
  unfold Region.wanted
  split at hw
  · rename_i hg; simp only [Option.some.injEq] at hw; simp [hg, hw]
  · rename_i j want hg
    simp only [hg]
    split at hw
    · rename_i hd
      simp only [Option.some.injEq] at hw; subst hw
      simp [yielded, hd]
    · rename_i d hd
      simp only [yielded, hd, Option.bind_some]
      split at hw
      · rename_i x hx
        simp only [Option.some.injEq] at hw; subst hw
        obtain ⟨u, hu, hr⟩ := r.tmps.get d _ hx
        simp only [VRel] at hr; subst hr
        have : a.tmps[d]? = some (.bool x) := by simpa using hu
        simp [this]
      · rename_i vs hx
        simp only [Option.some.injEq] at hw; subst hw
        obtain ⟨u, hu, hr⟩ := r.tmps.get d _ hx
        simp only [VRel] at hr
        obtain ⟨us, rfl, _⟩ := hr
        have : a.tmps[d]? = some (.tuple us) := by simpa using hu
        simp [this]
      · rename_i hx
        simp only [Option.some.injEq] at hw; subst hw
        have hl := r.tmps.length
        have : a.tmps[d]? = none := by
          rw [List.getElem?_eq_none_iff] at hx
          apply Array.getElem?_eq_none
          simp only [Array.length_toList] at hl
          omega
        simp [this]
      · cases hw

theorem arun_ok {S : Summ} {β : Base} (hS : SummB P β.nb S) {ops : Array Oper} {Q : Exit → Act → World → Prop} : ∀ (l : List Oper) (k : Nat) (A : List AV) (h : H) (G : Ghost) (w : World) (a : Act) (A' : List AV) (h' : H), (∀ j, l[j]? = ops[k + j]?) →
    SRel G h w → (∀ γ ∈ G.bases, γ.1 ≤ β.nb) → ARel G A a → arun P S β ops l A h = some (A', h') →
    (∀ G' a' w', Step G h w G' h' w' → SRel G' h' w' → ARel G' A' a' → Q .normal a' w') → wpOps P ops Q (List.range' k l.length) a w
  | [], k, A, h, G, w, a, A', h', _, s, hβ, r, he, hQ => by
    simp only [arun, Option.some.injEq, Prod.mk.injEq] at he
    obtain ⟨rfl, rfl⟩ := he
    simpa [wpOps] using hQ G a w (.refl _ _ _) s r
  | o :: l, k, A, h, G, w, a, A', h', hl, s, hβ, r, he, hQ => by
    have h0 : ops[k]? = some o := by simpa using (hl 0).symm
    have hl' : ∀ j, l[j]? = ops[k + 1 + j]? := fun j => by have := hl (j + 1); simpa [Nat.add_assoc, Nat.add_comm 1 j] using this
    simp only [List.length_cons, List.range'_succ, wpOps, h0]
    simp only [arun] at he
    split at he
    · rename_i hw
      rw [awant_ok r hw, if_pos rfl]
      split at he
      · rename_i v h1 hop
        left
        refine aop_ok hS s hβ r hop (fun G1 w1 u st1 s1 hv => ?_)
        exact arun_ok hS l (k + 1) _ h1 G1 w1 _ A' h' hl' s1 (by rw [st1.bases]; exact hβ) (put_rel (r.mono st1.le) hv o.dst) he
          (fun G' a' w' st s' r' => hQ G' a' w' (st1.trans st) s' r')
      · cases he
    · rename_i hw
      rw [awant_ok r hw]
      simp only [Bool.false_eq_true, if_false]
      exact arun_ok hS l (k + 1) _ h G w _ A' h' hl' s hβ (put_rel r (undef_rel G) o.dst) he hQ
    · cases he
end

def iter (f : List AV → H → Option (AX × List AV × H)) : Nat → List AV → H → Option (AX × List AV × H)
  | 0, _, _ => none
  | n + 1, A, h =>
    match f A h with
    | some (.normal, A', h') => iter f n A' h'
    | r => r

/-- how a region that draws its order is read: told by the caller -/
abbrev Draws := Array Oper → List AV → H → Option (List AV × H)

def exec (P : Program) (S : Summ) (D : Base → Draws) (β : Base) (n : Nat) : Code → List AV → H → Option (AX × List AV × H)
  | .skip, A, h => some (.normal, A, h)
  | .label _, A, h => some (.normal, A, h)
  | .region _ ops false, A, h => (arun P S β ops ops.toList A h).map fun (A, h) => (.normal, A, h)
  | .region _ ops true, A, h => (D β ops A h).map fun (A, h) => (.normal, A, h)
  | .seq x y, A, h =>
    match exec P S D β n x A h with
    | some (.normal, A', h') => exec P S D β n y A' h'
    | r => r
  | .cond c x y, A, h =>
    match aev A c with
    | .bool true => exec P S D β n x A h
    | .bool false => exec P S D β n y A h
    | _ => none
  | .block id c, A, h =>
    match exec P S D β n c A h with
    | some (.exit i, A', h') => if i = id then some (.normal, A', h') else some (.exit i, A', h')
    | r => r
  | .loop c, A, h => iter (exec P S D β n c) n A h
  | .exit id, A, h => some (.exit id, A, h)
  | .scope c, A, h => exec P S D β n c A h
  | .ret, A, h => some (.ret, A, h)
  | _, _, _ => none

def DrawsB (P : Program) (β : Base) (D : Base → Draws) : Prop :=
  ∀ (ops : Array Oper) (A : List AV) (h : H) (A' : List AV) (h' : H), D β ops A h = some (A', h') → ∀ (G : Ghost) (w : World) (a : Act), SRel G h w → (∀ γ ∈ G.bases, γ.1 ≤ β.nb) → ARel G A a →
    ∀ (id : Nat) (Q : Exit → Act → World → Prop), (∀ G' a' w', Step G h w G' h' w' → SRel G' h' w' → ARel G' A' a' → Q .normal a' w') → (Code.region id ops true).wp P Q a w

def DrawsOk (P : Program) (D : Base → Draws) : Prop := ∀ β, DrawsB P β D

section
variable {P : Program} {G : Ghost} {h : H} {w : World}

def CodeOk (P : Program) (β : Base) (c : Code) (A : List AV) (h : H) (x : AX) (A' : List AV) (h' : H) : Prop :=
  ∀ (G : Ghost) (w : World) (a : Act), SRel G h w → (∀ γ ∈ G.bases, γ.1 ≤ β.nb) → ARel G A a →
    ∀ (Q : Exit → Act → World → Prop), (∀ G' a' w', Step G h w G' h' w' → SRel G' h' w' → ARel G' A' a' → Q x.toExit a' w') → c.wp P Q a w

theorem iter_ok {β : Base} {c : Code} {f : List AV → H → Option (AX × List AV × H)} (hf : ∀ A h x A' h', f A h = some (x, A', h') → CodeOk P β c A h x A' h') :
    ∀ (n : Nat) (A : List AV) (h : H) (x : AX) (A' : List AV) (h' : H), iter f n A h = some (x, A', h') → ∀ (G : Ghost) (w : World) (a : Act), SRel G h w → (∀ γ ∈ G.bases, γ.1 ≤ β.nb) → ARel G A a →
      ∀ (Q : Exit → Act → World → Prop), (∀ G' a' w', Step G h w G' h' w' → SRel G' h' w' → ARel G' A' a' → Q x.toExit a' w') → Code.rounds P c Q n a w
  | 0, A, h, x, A', h', he, G, w, a, s, hβ, r, Q, hQ => by simp [iter] at he
  | n + 1, A, h, x, A', h', he, G, w, a, s, hβ, r, Q, hQ => by
    simp only [iter] at he
    rw [rounds_succ]
    split at he
    · rename_i A1 h1 hb
      refine hf _ _ _ _ _ hb G w a s hβ r _ (fun G1 a1 w1 st1 s1 r1 => ?_)
      exact iter_ok hf n A1 h1 x A' h' he G1 w1 a1 s1 (by rw [st1.bases]; exact hβ) r1 Q (fun G' a' w' st s' r' => hQ G' a' w' (st1.trans st) s' r')
    · rename_i hne
      refine hf _ _ _ _ _ he G w a s hβ r _ (fun G1 a1 w1 st1 s1 r1 => ?_)
      have hq := hQ G1 a1 w1 st1 s1 r1
      cases x
      · exact absurd he (hne _ _)
      · exact hq
      · exact hq

theorem exec_ok {S : Summ} {β : Base} (hS : SummB P β.nb S) {D : Base → Draws} (hD : DrawsB P β D) {n : Nat} : ∀ (c : Code) (A : List AV) (h : H) (x : AX) (A' : List AV) (h' : H), exec P S D β n c A h = some (x, A', h') → CodeOk P β c A h x A' h' := by
  intro c
  induction c with
  | skip =>
    intro A h x A' h' he G w a s hβ r Q hQ
    simp only [exec, Option.some.injEq, Prod.mk.injEq] at he; obtain ⟨rfl, rfl, rfl⟩ := he
    exact wp_skip (hQ G a w (.refl _ _ _) s r)
  | label l =>
    intro A h x A' h' he G w a s hβ r Q hQ
    simp only [exec, Option.some.injEq, Prod.mk.injEq] at he; obtain ⟨rfl, rfl, rfl⟩ := he
    exact wp_label (hQ G a w (.refl _ _ _) s r)
  | region id ops draw =>
    intro A h x A' h' he G w a s hβ r Q hQ
    cases draw
    · simp only [exec, Option.map_eq_some_iff] at he
      obtain ⟨⟨A1, h1⟩, hrun, he⟩ := he
      simp only [Prod.mk.injEq] at he; obtain ⟨rfl, rfl, rfl⟩ := he
      refine wp_region ?_
      have := arun_ok hS (Q := Q) ops.toList 0 A h G w a A1 h1 (by simp) s hβ r hrun hQ
      rwa [← List.range_eq_range', Array.length_toList] at this
    · simp only [exec, Option.map_eq_some_iff] at he
      obtain ⟨⟨A1, h1⟩, hrun, he⟩ := he
      simp only [Prod.mk.injEq] at he; obtain ⟨rfl, rfl, rfl⟩ := he
      exact hD ops A h A1 h1 hrun G w a s hβ r id Q hQ
  | seq x y ihx ihy =>
    intro A h x0 A' h' he G w a s hβ r Q hQ
    simp only [exec] at he
    refine wp_seq ?_
    split at he
    · rename_i A1 h1 hx
      refine ihx _ _ _ _ _ hx G w a s hβ r _ (fun G1 a1 w1 st1 s1 r1 => ?_)
      exact ihy _ _ _ _ _ he G1 w1 a1 s1 (by rw [st1.bases]; exact hβ) r1 Q (fun G' a' w' st s' r' => hQ G' a' w' (st1.trans st) s' r')
    · rename_i hne
      refine ihx _ _ _ _ _ he G w a s hβ r _ (fun G1 a1 w1 st1 s1 r1 => ?_)
      have hq := hQ G1 a1 w1 st1 s1 r1
      cases x0
      · exact absurd he (hne _ _)
      · exact hq
      · exact hq
  | cond c x y ihx ihy =>
    intro A h x0 A' h' he G w a s hβ r Q hQ
    simp only [exec] at he
    have hc := aev_rel r c
    split at he
    · rename_i hb; rw [hb] at hc; simp only [VRel] at hc
      exact wp_cond_true hc (ihx _ _ _ _ _ he G w a s hβ r Q hQ)
    · rename_i hb; rw [hb] at hc; simp only [VRel] at hc
      exact wp_cond_false hc (ihy _ _ _ _ _ he G w a s hβ r Q hQ)
    · cases he
  | block id c ih =>
    intro A h x0 A' h' he G w a s hβ r Q hQ
    simp only [exec] at he
    refine wp_block ?_
    split at he
    · rename_i i A1 h1 hx
      split at he
      · rename_i hi
        simp only [Option.some.injEq, Prod.mk.injEq] at he; obtain ⟨rfl, rfl, rfl⟩ := he
        refine ih _ _ _ _ _ hx G w a s hβ r _ (fun G1 a1 w1 st1 s1 r1 => ?_)
        simp only [AX.toExit, Exit.inBlock, hi, if_true]
        exact hQ G1 a1 w1 st1 s1 r1
      · rename_i hi
        simp only [Option.some.injEq, Prod.mk.injEq] at he; obtain ⟨rfl, rfl, rfl⟩ := he
        refine ih _ _ _ _ _ hx G w a s hβ r _ (fun G1 a1 w1 st1 s1 r1 => ?_)
        simp only [AX.toExit, Exit.inBlock, hi, if_false]
        exact hQ G1 a1 w1 st1 s1 r1
    · rename_i hne
      refine ih _ _ _ _ _ he G w a s hβ r _ (fun G1 a1 w1 st1 s1 r1 => ?_)
      have hq := hQ G1 a1 w1 st1 s1 r1
      cases x0
      · exact hq
      · exact absurd he (hne _ _ _)
      · exact hq
  | loop c ih =>
    intro A h x0 A' h' he G w a s hβ r Q hQ
    simp only [exec] at he
    exact wp_loop_rounds n (iter_ok (fun A h x A' h' hh => ih A h x A' h' hh) n A h x0 A' h' he G w a s hβ r Q hQ)
  | exit id =>
    intro A h x A' h' he G w a s hβ r Q hQ
    simp only [exec, Option.some.injEq, Prod.mk.injEq] at he; obtain ⟨rfl, rfl, rfl⟩ := he
    exact wp_exit (hQ G a w (.refl _ _ _) s r)
  | scope c ih =>
    intro A h x0 A' h' he G w a s hβ r Q hQ
    simp only [exec] at he
    refine wp_scope_straight ?_
    refine ih _ _ _ _ _ he G w a s hβ r _ (fun G1 a1 w1 st1 s1 r1 => ?_)
    have hq := hQ G1 a1 w1 st1 s1 r1
    cases x0 <;> exact hq
  | ret =>
    intro A h x A' h' he G w a s hβ r Q hQ
    simp only [exec, Option.some.injEq, Prod.mk.injEq] at he; obtain ⟨rfl, rfl, rfl⟩ := he
    exact wp_ret (hQ G a w (.refl _ _ _) s r)
  | rangeFunc f p x y _ _ => intro A h x0 A' h' he; simp [exec] at he
  | goto l => intro A h x0 A' h' he; simp [exec] at he
  | refuse y => intro A h x0 A' h' he; simp [exec] at he
end
end Go.VM
end
section
/- Leaving a frame; calls. -/
namespace Go.VM
set_option linter.unusedSectionVars false
variable [Inhabited Globs]

def H.base (h : H) : Base := ⟨h.blk.length, h.toks.length, h.maps.length⟩

def frz (nb nt : Nat) (h : H) : Nat → AV → AV
  | 0, _ => .top
  | k + 1, .agg cs => .agg (cs.map (frz nb nt h k))
  | k + 1, .tup cs => .tup (cs.map (frz nb nt h k))
  | k + 1, .cptr cs => .cptr (cs.map (frz nb nt h k))
  | k + 1, .fn f a b => .fn f (a.map (frz nb nt h k)) (b.map (frz nb nt h k))
  | k + 1, .sl cs n (.tok t z) => .sl (cs.map (frz nb nt h k)) n (if t < nt then .tok t z else .no)
  | k + 1, .sl cs n r => .sl (cs.map (frz nb nt h k)) n r
  | k + 1, .msl b o n cap z =>
    if b < nb then .msl b o n cap z
    else match h.blk[b]? with
      | some cs => .sl (((cs.drop o).take (n * z)).map (frz nb nt h k)) n (if cap = n then .full else .no)
      | none => .top
  | _ + 1, v => v

def retok (nt : Nat) (h : H) (v v1 : AV) : AV × List Nat :=
  match v, v1 with
  | .sl _ n (.tok t z), .sl cs1 n1 _ => if nt ≤ t ∧ h.toks[t]? = some n ∧ n1 = n then (.sl cs1 n (.tok nt z), [n]) else (v1, [])
  | .tup (.sl _ n (.tok t z) :: _), .tup (.sl cs1 n1 _ :: rest) => if nt ≤ t ∧ h.toks[t]? = some n ∧ n1 = n then (.tup (.sl cs1 n (.tok nt z) :: rest), [n]) else (v1, [])
  | _, _ => (v1, [])

def leave (β : Base) (v : AV) (h1 : H) : AV × H :=
  if v.bnd β.nb β.nt β.nm then (v, ⟨h1.blk.take β.nb, h1.toks.take β.nt, h1.maps.take β.nm⟩)
  else
    let v1 := frz β.nb β.nt h1 6 v
    if v1.bnd β.nb β.nt h1.maps.length then
      let (v2, ts) := retok β.nt h1 v v1
      (v2, ⟨h1.blk.take β.nb, h1.toks.take β.nt ++ ts, if v1.bnd β.nb β.nt β.nm then h1.maps.take β.nm else h1.maps⟩)
    else (v, h1)

section
variable {P : Program} {G : Ghost} {h : H} {w : World}

theorem key_bnd {a : AV} (h : a.key = true) : a.bnd 0 0 0 = true := by
  cases a <;> simp only [AV.key, AV.key1, Bool.false_eq_true] at h <;> simp only [AV.bnd]
  rw [AV.bnds_iff]
  intro x hx
  have := List.all_eq_true.1 h x hx
  cases x <;> simp only [AV.key1, Bool.false_eq_true] at this <;> simp only [AV.bnd]

def newToks : Option (Nat × Nat) → List Nat
  | none => []
  | some (_, N) => [N]

open Classical in
noncomputable def Ghost.leave (G : Ghost) (h : H) (w : World) (nb nt nm : Nat) (ot : Option (Nat × Nat)) (bs : List (Nat × Nat × Nat)) : Ghost where
  φ := fun b => if b < nb then G.φ b else none
  fr := fun c o => if ∃ b s, nb ≤ b ∧ G.φ b = some (c, s) ∧ h.blk[b]? ≠ some [] then w.cell? ⟨c, o, none⟩ else G.fr c o
  tk := fun t m => if t < nt then G.tk t m else match ot with
    | some (t0, N) => if t = nt ∧ m = N then G.tk t0 N else none
    | none => none
  mp := fun m => if m < nm then G.mp m else none
  bases := bs

theorem SRel.leave (s : SRel G h w) {nb nt nm nm' : Nat} {bs : List (Nat × Nat × Nat)} (hmem : (nb, nt, nm) ∈ G.bases) (hbs : ∀ β ∈ bs, β ∈ G.bases ∧ β.1 ≤ nb ∧ β.2.1 ≤ nt ∧ β.2.2 ≤ nm) (hm1 : nm ≤ nm') (hm2 : nm' ≤ h.maps.length)
    (ot : Option (Nat × Nat)) (hot : ∀ t0 N, ot = some (t0, N) → nt ≤ t0 ∧ h.toks[t0]? = some N) :
    SRel (G.leave h w nb nt nm' ot bs) ⟨h.blk.take nb, h.toks.take nt ++ newToks ot, h.maps.take nm'⟩ w ∧ G.LeBelow nb nt nm' (G.leave h w nb nt nm' ot bs) ∧
      (∀ c, Own (G.leave h w nb nt nm' ot bs) ⟨h.blk.take nb, h.toks.take nt ++ newToks ot, h.maps.take nm'⟩ c → Own G h c) ∧
      (∀ b c arr e f, nb ≤ b → G.φ b = some c → h.blk[b]? ≠ some [] → w.heap[c.1]? = some (.cells arr e f) → ∀ (o : Nat) u, arr[o]? = some u → (G.leave h w nb nt nm' ot bs).fr c.1 o = some u) := by
  obtain ⟨hb1, hb2, hb3, hb4⟩ := s.bases _ hmem
  simp only at hb1 hb2 hb3 hb4
  have hφ : ∀ b c, (G.leave h w nb nt nm' ot bs).φ b = some c → b < nb ∧ G.φ b = some c := fun b c hq => by
    simp only [Ghost.leave] at hq; split at hq
    · exact ⟨by assumption, hq⟩
    · cases hq
  have hmp : ∀ b c, (G.leave h w nb nt nm' ot bs).mp b = some c → b < nm' ∧ G.mp b = some c := fun b c hq => by
    simp only [Ghost.leave] at hq; split at hq
    · exact ⟨by assumption, hq⟩
    · cases hq
  have htk : ∀ t m x, (G.leave h w nb nt nm' ot bs).tk t m = some x → (t < nt ∧ G.tk t m = some x) ∨ (t = nt ∧ ∃ t0, ot = some (t0, m) ∧ G.tk t0 m = some x) := fun t m x hq => by
    simp only [Ghost.leave] at hq; split at hq
    · exact .inl ⟨by assumption, hq⟩
    · split at hq
      · rename_i t0 N
        split at hq
        · rename_i hc; obtain ⟨rfl, rfl⟩ := hc; exact .inr ⟨rfl, t0, rfl, hq⟩
        · cases hq
      · cases hq
  have hlent : (h.toks.take nt).length = nt := by simp; omega
  have htoks : ∀ t m, (h.toks.take nt ++ newToks ot)[t]? = some m → (t < nt ∧ h.toks[t]? = some m) ∨ (t = nt ∧ ∃ t0, ot = some (t0, m) ∧ nt ≤ t0 ∧ h.toks[t0]? = some m) := fun t m hq => by
    by_cases ht : t < nt
    · rw [List.getElem?_append_left (by omega), List.getElem?_take, if_pos ht] at hq
      exact .inl ⟨ht, hq⟩
    · rw [List.getElem?_append_right (by omega), hlent] at hq
      cases hopt : ot with
      | none => rw [hopt] at hq; simp [newToks] at hq
      | some p =>
        obtain ⟨t0, N⟩ := p
        rw [hopt] at hq
        simp only [newToks] at hq
        have h0 : t - nt = 0 := by
          have := (List.getElem?_eq_some_iff.1 hq).1
          simp at this; omega
        rw [h0] at hq
        simp at hq; subst hq
        exact .inr ⟨by omega, t0, rfl, hot t0 N hopt⟩
  have hle : G.LeBelow nb nt nm' (G.leave h w nb nt nm' ot bs) := by
    refine ⟨fun b c hb hq => ?_, fun c o v hq => ?_, fun t n x ht hq => ?_, fun m c hm hq => ?_⟩
    · simp only [Ghost.leave, if_pos hb]; exact hq
    · simp only [Ghost.leave]
      split
      · exact s.fr c o v hq
      · exact hq
    · simp only [Ghost.leave, if_pos ht]; exact hq
    · simp only [Ghost.leave, if_pos hm]; exact hq
  have hfr : ∀ c, (∀ b s, nb ≤ b → h.blk[b]? ≠ some [] → G.φ b ≠ some (c, s)) → ∀ o, (G.leave h w nb nt nm' ot bs).fr c o = G.fr c o := fun c hc o => by
    simp only [Ghost.leave]; rw [if_neg]; rintro ⟨b, sb, h1, h2, h3⟩; exact hc b sb h1 h3 h2
  refine ⟨⟨⟨fun b c hq => ?_, fun t n x hq => ?_, fun m c hq => ?_⟩, ?_, ?_, ?_, ?_, ?_, ?_, ?_, ?_, ?_, ?_, ?_⟩, hle, ?_, ?_⟩
  · have := (hφ b c hq).1; simp; omega
  · simp only [List.length_append, hlent]
    rcases htk t n x hq with ⟨h1, _⟩ | ⟨rfl, t0, h1, _⟩
    · omega
    · simp [h1, newToks]
  · have := (hmp m c hq).1; simp; omega
  · intro b c hq
    obtain ⟨h1, h2⟩ := hφ b c hq
    obtain ⟨cs, arr, e, h3, h4, h4', h5⟩ := s.blk b c h2
    refine ⟨cs, arr, e, by rw [List.getElem?_take, if_pos h1]; exact h3, h4, h4', VRels.below hle _ _ ?_ h5⟩
    exact AV.bnds_mono (Nat.le_refl _) (Nat.le_refl _) hm1 _ (hb4 b c cs h2 h1 h3)
  · intro t n hq
    rcases htoks t n hq with ⟨h1, h2⟩ | ⟨rfl, t0, h1, h2, h3⟩
    · obtain ⟨c, cap, size, cur, e, k1, k2, k3, k4, k5, k6⟩ := s.tok t n h2
      refine ⟨c, cap, size, cur, e, hle.tk _ _ _ h1 k1, k2, k3, k4, k5, fun o v hv => k6 o v ?_⟩
      rwa [hfr c (fun b sb _ _ hb => s.φtk b (c, sb) t n cap size hb h2 k1)] at hv
    · obtain ⟨c, cap, size, cur, e, k1, k2, k3, k4, k5, k6⟩ := s.tok t0 n h3
      refine ⟨c, cap, size, cur, e, ?_, k2, k3, k4, k5, fun o v hv => k6 o v ?_⟩
      · simp only [Ghost.leave, Nat.lt_irrefl, if_false, h1, and_self, if_true]; exact k1
      · rwa [hfr c (fun b sb _ _ hb => s.φtk b (c, sb) t0 n cap size hb h3 k1)] at hv
  · intro m c hq
    obtain ⟨h1, h2⟩ := hmp m c hq
    obtain ⟨M, es, ck, h3, h4, hMok, M', h5, h6, h7, h8⟩ := s.map m c h2
    refine ⟨M, es, ck, by rw [List.getElem?_take, if_pos h1]; exact h3, h4, hMok, M', h5, h6, fun i kv e q1 q2 => ?_, h8⟩
    have hin := hMok.2 kv (h5.mem_iff.1 (List.mem_of_getElem? q1))
    obtain ⟨r1, r2⟩ := h7 i kv e q1 q2
    exact ⟨VRel.below hle _ _ (AV.bnd_mono (Nat.zero_le _) (Nat.zero_le _) (Nat.zero_le _) _ (key_bnd hin.1)) r1, VRel.below hle _ _ (AV.bnd_mono (Nat.zero_le _) (Nat.zero_le _) (Nat.zero_le _) _ hin.2) r2⟩
  · intro c o v hq
    simp only [Ghost.leave] at hq
    split at hq
    · exact hq
    · exact s.fr c o v hq
  · intro b b' c c' h1 h2 he
    have ht : ∀ x, x < nb → h.blk[x]? = some [] → (h.blk.take nb)[x]? = some [] := fun x hx hq => by rw [List.getElem?_take, if_pos hx]; exact hq
    rcases s.injφ b b' c c' (hφ b c h1).2 (hφ b' c' h2).2 he with q | q | q
    · exact .inl q
    · exact .inr (.inl (ht b (hφ b c h1).1 q))
    · exact .inr (.inr (ht b' (hφ b' c' h2).1 q))
  · intro b c o hq hl
    obtain ⟨h1, h2⟩ := hφ b c hq
    have hl : h.blk[b]? ≠ some [] := fun q => hl (by show (h.blk.take nb)[b]? = _; rw [List.getElem?_take, if_pos h1]; exact q)
    rw [hfr c.1 (fun b' sb hb' hl' hq' => by
      rcases s.injφ b b' c (c.1, sb) h2 hq' rfl with q | q | q
      · omega
      · exact hl q
      · exact hl' q)]
    exact s.φfr b c o h2 hl
  · intro b c t n cap sz hq ht hk
    obtain ⟨h1, h2⟩ := hφ b c hq
    rcases htoks t n ht with ⟨g1, g2⟩ | ⟨rfl, t0, g1, g2, g3⟩
    · rcases htk t n _ hk with ⟨_, k2⟩ | ⟨k1, _⟩
      · exact s.φtk b c t n cap sz h2 g2 k2
      · omega
    · rcases htk t n _ hk with ⟨k1, _⟩ | ⟨_, t1, k1, k2⟩
      · omega
      · rw [g1] at k1; cases k1
        exact s.φtk b c t0 n cap sz h2 g3 k2
  · intro t n x hq cur hc
    rcases htoks t cur hc with ⟨g1, g2⟩ | ⟨rfl, t0, g1, g2, g3⟩
    · rcases htk t n _ hq with ⟨_, k2⟩ | ⟨k1, _⟩
      · exact s.tkle t n x k2 cur g2
      · omega
    · rcases htk t n _ hq with ⟨k1, _⟩ | ⟨_, t1, k1, k2⟩
      · omega
      · rw [g1] at k1; cases k1; exact Nat.le_refl _
  · intro t t' n n' c cap sz cap' sz' h1 h2 h3 h4
    rcases htoks t n h1 with ⟨g1, g2⟩ | ⟨rfl, t0, g1, g2, g3⟩ <;> rcases htoks t' n' h2 with ⟨g1', g2'⟩ | ⟨rfl, t0', g1', g2', g3'⟩
    · rcases htk t n _ h3 with ⟨_, k2⟩ | ⟨k1, _⟩
      · rcases htk t' n' _ h4 with ⟨_, k2'⟩ | ⟨k1, _⟩
        · exact s.injtk t t' n n' c cap sz cap' sz' g2 g2' k2 k2'
        · omega
      · omega
    · rcases htk t n _ h3 with ⟨_, k2⟩ | ⟨k1, _⟩
      · rcases htk _ n' _ h4 with ⟨k1, _⟩ | ⟨_, t1, k1, k2'⟩
        · omega
        · rw [g1'] at k1; cases k1
          have := s.injtk t t0' n n' c cap sz cap' sz' g2 g3' k2 k2'
          omega
      · omega
    · rcases htk t' n' _ h4 with ⟨_, k2'⟩ | ⟨k1, _⟩
      · rcases htk _ n _ h3 with ⟨k1, _⟩ | ⟨_, t1, k1, k2⟩
        · omega
        · rw [g1] at k1; cases k1
          have := s.injtk t0 t' n n' c cap sz cap' sz' g3 g2' k2 k2'
          omega
      · omega
    · rfl
  · intro m m' c h1 h2
    exact s.injmp m m' c (hmp m c h1).2 (hmp m' c h2).2
  · intro β hβ
    obtain ⟨h1, h2, h3, h4⟩ := hbs β hβ
    obtain ⟨k1, k2, k3, k4⟩ := s.bases β h1
    refine ⟨by simp; omega, by simp only [List.length_append, hlent]; omega, by simp; omega, fun b c cs hq hb hcs => ?_⟩
    obtain ⟨q1, q2⟩ := hφ b c hq
    rw [List.getElem?_take, if_pos q1] at hcs
    exact k4 b c cs q2 hb hcs
  · intro c ho
    rcases ho with ⟨b, sb, hb, hl⟩ | ⟨t, n, cap, sz, ht, hk⟩ | ⟨m, hm⟩
    · exact .inl ⟨b, sb, (hφ b _ hb).2, fun q => hl (by show (h.blk.take nb)[b]? = _; rw [List.getElem?_take, if_pos (hφ b _ hb).1]; exact q)⟩
    · rcases htoks t n ht with ⟨g1, g2⟩ | ⟨rfl, t0, g1, g2, g3⟩
      · rcases htk t n _ hk with ⟨_, k2⟩ | ⟨k1, _⟩
        · exact .inr (.inl ⟨t, n, cap, sz, g2, k2⟩)
        · omega
      · rcases htk _ n _ hk with ⟨k1, _⟩ | ⟨_, t1, k1, k2⟩
        · omega
        · rw [g1] at k1; cases k1
          exact .inr (.inl ⟨t0, n, cap, sz, g3, k2⟩)
    · exact .inr (.inr ⟨m, (hmp m c hm).2⟩)
  · intro b c arr e f hb hq hl hh o u hu
    simp only [Ghost.leave]
    rw [if_pos ⟨b, c.2, hb, hq, hl⟩]
    simpa [World.cell?, hh] using hu

/-- frozen values stand for what they stood for -/
theorem frz_rel (s : SRel G h w) {G' : Ghost} {nb nt nm : Nat} (hle : G.LeBelow nb nt nm G') (hfz : ∀ b c arr e f, nb ≤ b → G.φ b = some c → h.blk[b]? ≠ some [] → w.heap[c.1]? = some (.cells arr e f) → ∀ (o : Nat) u, arr[o]? = some u → G'.fr c.1 o = some u) :
    ∀ (k : Nat) (v : AV) (u : Value), VRel G v u → (frz nb nt h k v).bnd nb nt nm = true → VRel G' (frz nb nt h k v) u := by
  intro k
  induction k with
  | zero => intro v u _ _; simp [frz, VRel]
  | succ k ih =>
    have ihs : ∀ (cs : List AV) (us : List Value), VRels G cs us → AV.bnds nb nt nm (cs.map (frz nb nt h k)) = true → VRels G' (cs.map (frz nb nt h k)) us := by
      intro cs
      induction cs with
      | nil => intro us hv _; simpa [VRels] using hv
      | cons c cs ihc =>
        intro us hv hb
        simp only [VRels] at hv
        obtain ⟨u, us', rfl, h1, h2⟩ := hv
        simp only [List.map_cons, AV.bnds, Bool.and_eq_true] at hb
        simp only [List.map_cons, VRels]
        exact ⟨u, us', rfl, ih c u h1 hb.1, ihc us' h2 hb.2⟩
    intro v u hv hb
    cases v
    case agg cs =>
      simp only [frz, AV.bnd, VRel] at hv hb ⊢
      obtain ⟨vs, rfl, hs⟩ := hv
      exact ⟨vs, rfl, ihs cs _ hs hb⟩
    case tup cs =>
      simp only [frz, AV.bnd, VRel] at hv hb ⊢
      obtain ⟨vs, rfl, hs⟩ := hv
      exact ⟨vs, rfl, ihs cs _ hs hb⟩
    case cptr cs =>
      simp only [frz, AV.bnd, VRel] at hv hb ⊢
      obtain ⟨c, o, vs, rfl, hs, hf⟩ := hv
      exact ⟨c, o, vs, rfl, ihs cs _ hs hb, fun i u hu => hle.fr _ _ _ (hf i u hu)⟩
    case fn f a b =>
      simp only [frz, AV.bnd, VRel, Bool.and_eq_true] at hv hb ⊢
      obtain ⟨fs, cs, rfl, h1, h2⟩ := hv
      exact ⟨fs, cs, rfl, ihs a _ h1 hb.1, ihs b _ h2 hb.2⟩
    case sl cs n r =>
      simp only [VRel] at hv
      rcases hv with (⟨rfl, rfl, rfl, rfl⟩ | ⟨rfl, rfl, rfl, a, rfl⟩) | ⟨c, o, cap, vs, rfl, h1, h2, h3, h4, h5⟩
      · simp [frz, VRel]
      · simp [frz, VRel]
      · have hbs : AV.bnds nb nt nm (cs.map (frz nb nt h k)) = true := by
          cases r <;> simp only [frz, AV.bnd, Bool.and_eq_true] at hb <;> exact hb.2
        have hcs := ihs cs vs h4 hbs
        have hfr : ∀ (i : Nat) (u : Value), vs[i]? = some u → G'.fr c (o + i) = some u := fun i u hu => hle.fr _ _ _ (h5 i u hu)
        cases r <;> simp only [frz, VRel] <;> refine .inr ⟨c, o, cap, vs, rfl, h1, h2, ?_, hcs, hfr⟩
        · exact h3
        · exact h3
        · trivial
        · exact h3
        · rename_i t z
          split
          · rename_i ht
            exact ⟨h3.1, hle.tk _ _ _ ht h3.2⟩
          · trivial
    case msl b o n cap z =>
      simp only [VRel] at hv
      obtain ⟨c, h1, cap', rfl, h2, h3, h4⟩ := hv
      simp only [frz] at hb ⊢
      split at hb
      · rename_i hlt
        rw [if_pos hlt]
        simp only [VRel]
        exact ⟨c, hle.φ _ _ hlt h1, cap', rfl, h2, h3, h4⟩
      · rename_i hlt
        rw [if_neg hlt]
        obtain ⟨cs, arr, e, k1, k2, _, k3⟩ := s.blk b c h1
        simp only [k1, AV.bnd, Bool.and_eq_true] at hb ⊢
        simp only [VRel]
        refine .inr ⟨c.1, o, cap', ((arr.toList.take cs.length).drop o).take (n * z), rfl, h2, h3, ?_, ihs _ _ ((k3.drop o).take _) hb.2, fun i u hu => ?_⟩
        · split
          · rename_i hc
            rcases h4.1 with h4 | h4
            · simp only [RoomOk]; omega
            · exfalso; simp only [noCap] at h4; omega
          · trivial
        · rw [List.getElem?_take] at hu
          split at hu
          · rw [List.getElem?_drop, List.getElem?_take] at hu
            split at hu
            · refine hfz b c arr e (0, 0) (by omega) h1 (fun q => ?_) k2 (o + i) u (by simpa using hu)
              rw [k1] at q; cases q
              simp at *
            · cases hu
          · cases hu
    case ptr b o =>
      simp only [frz] at hb ⊢
      exact VRel.below hle _ _ hb hv
    case map m =>
      simp only [frz] at hb ⊢
      exact VRel.below hle _ _ hb hv
    case top => simp [frz, VRel]
    all_goals (simp only [frz, VRel] at hv ⊢; exact hv)
end
end Go.VM
end
section
/- Calls. -/
namespace Go.VM
set_option linter.unusedSectionVars false
variable [Inhabited Globs]

def resv (P : Program) (h : H) (A : List AV) : ResultVar → Option AV
  | .tmp t => some (A.getD t .undef)
  | .cell a t => match h.target (A.getD a .undef) with
    | some cs => aLoad P t cs
    | none => none
def resvs (P : Program) (h : H) (A : List AV) : List ResultVar → Option (List AV)
  | [] => some []
  | r :: rs => match resv P h A r, resvs P h A rs with
    | some v, some vs => some (v :: vs)
    | _, _ => none
def oneOrTup : List AV → AV
  | [v] => v
  | vs => .tup vs

def acall (P : Program) (S : Summ) (D : Base → Draws) (n : Nat) (f : FuncId) (args : List AV) (h : H) : Option (AV × H) :=
  match P.funcs[f]? with
  | some fn =>
    match fn.body with
    | some c =>
      match exec P S D h.base n c (args ++ List.replicate (fn.ntmps - args.length) .undef) h with
      | some (.exit _, _, _) => none
      | some (_, A, h1) =>
        match resvs P h1 A fn.results.toList with
        | some vs => some (leave h.base (oneOrTup vs) h1)
        | none => none
      | none => none
    | none => none
  | none => none

section
variable {P : Program} {G : Ghost} {h : H} {w : World}

theorem resvs_ok (s : SRel G h w) {A : List AV} {a : Act} (r : ARel G A a) : ∀ (rs : List ResultVar) (vs : List AV), resvs P h A rs = some vs →
    ∃ us : List Value, (rs.mapM (fun x => (match x with | .tmp t => pure (a.tmps.getD t undef) | .cell p t => do loadVar t (← asAddr (a.tmps.getD p undef)) : Sem Value))).run P w = .ok us w ∧ VRels G vs us
  | [], vs, he => by
    simp only [resvs, Option.some.injEq] at he; subst he
    exact ⟨[], rfl, by simp [VRels]⟩
  | x :: rs, vs, he => by
    simp only [resvs] at he
    split at he
    · rename_i v vs' hv hvs
      simp only [Option.some.injEq] at he; subst he
      obtain ⟨us, h1, h2⟩ := resvs_ok s r rs vs' hvs
      have hx : ∃ u, (match x with | .tmp t => pure (a.tmps.getD t undef) | .cell p t => do loadVar t (← asAddr (a.tmps.getD p undef)) : Sem Value).run P w = .ok u w ∧ VRel G v u := by
        cases x with
        | tmp t =>
          simp only [resv, Option.some.injEq] at hv; subst hv
          exact ⟨_, rfl, aev_rel r (.tmp t)⟩
        | cell p t =>
          simp only [resv] at hv
          split at hv
          · rename_i cs hcs
            have hp := aev_rel r (.tmp p)
            obtain ⟨u, g1, g2⟩ := load_quiet (P := P) s hp hcs hv
            obtain ⟨c, o, vs0, e, _⟩ := target_rel s hp hcs
            simp only [Act.eval] at g1 e
            rw [e] at g1
            simp only [Instr.loadAt, Instr.sureAddr, Sem.run_bind, Sem.run_pure, Result.andThen_ok] at g1
            refine ⟨u, ?_, g2⟩
            simp only [e, asAddr, Sem.run_bind, Sem.run_pure, Result.andThen_ok]
            exact g1
          · cases hv
      obtain ⟨u, hu1, hu2⟩ := hx
      refine ⟨u :: us, ?_, by simp only [VRels]; exact ⟨u, us, rfl, hu2, h2⟩⟩
      rw [List.mapM_cons]
      simp only [Sem.run_bind, hu1, h1, Result.andThen_ok, Sem.run_pure]
    · cases he

theorem results_ok (s : SRel G h w) {A : List AV} {a : Act} (r : ARel G A a) {fn : Func} {vs : List AV} (he : resvs P h A fn.results.toList = some vs) :
    ∃ u, (results fn a.tmps).run P w = .ok u w ∧ VRel G (oneOrTup vs) u := by
  obtain ⟨us, h1, h2⟩ := resvs_ok s r _ _ he
  have hrun : (fn.results.mapM (fun x => (match x with | .tmp t => pure (a.tmps.getD t undef) | .cell p t => do loadVar t (← asAddr (a.tmps.getD p undef)) : Sem Value))).run P w = .ok us.toArray w := by
    rw [Array.mapM_eq_mapM_toList]
    simp only [Sem.run_map, h1, Result.andThen_ok]
  refine ⟨if hs : us.toArray.size = 1 then us.toArray[0] else .tuple us.toArray, ?_, ?_⟩
  · unfold results
    erw [Sem.run_bind, hrun]
    rfl
  · match vs, us, h2 with
    | [], us, h2 => simp only [VRels] at h2; subst h2; simp [oneOrTup, VRel, VRels]
    | [v], us, h2 => obtain ⟨u, rfl, hu⟩ := rels_one' h2; simpa [oneOrTup] using hu
    | v :: v2 :: rest, us, h2 =>
      have hl := h2.length
      have : ¬ us.toArray.size = 1 := by simp at hl ⊢; omega
      rw [dif_neg this]
      simp only [oneOrTup, VRel]
      exact ⟨_, rfl, h2⟩

/-- what leaving makes of a value and its tokens -/
def RetGood (G G' : Ghost) (h : H) (nt : Nat) (u : Value) (p : AV × List Nat) : Prop :=
  ∃ ot : Option (Nat × Nat), p.2 = newToks ot ∧ (∀ t0 N, ot = some (t0, N) → nt ≤ t0 ∧ h.toks[t0]? = some N) ∧
      ∀ G'' : Ghost, G'.Le G'' → (∀ t0 N, ot = some (t0, N) → ∀ x, G.tk t0 N = some x → G''.tk nt N = some x) → VRel G'' p.1 u

theorem retok_rel {G' : Ghost} {nt : Nat} {v v1 : AV} {u : Value} (hv : VRel G v u) (hv1 : VRel G' v1 u) : RetGood G G' h nt u (retok nt h v v1) := by
  have key : ∀ {cs cs1 : List AV} {n n1 t z : Nat} {r : Room} {u : Value} {G'' : Ghost}, VRel G (.sl cs n (.tok t z)) u → VRel G' (.sl cs1 n1 r) u → n1 = n → G'.Le G'' → (∀ x, G.tk t n = some x → G''.tk nt n = some x) → VRel G'' (.sl cs1 n (.tok nt z)) u := by
    intro cs cs1 n n1 t z r u G'' h1 h2 hn hle ht
    subst hn
    simp only [VRel] at h1 h2 ⊢
    rcases h1 with (⟨hq, _⟩ | ⟨hq, _⟩) | ⟨c, o, cap, vs, rfl, a1, a2, a3, a4, a5⟩
    · cases hq
    · cases hq
    · rcases h2 with (⟨_, _, _, hq⟩ | ⟨_, hcs, _, a, hq⟩) | ⟨c', o', cap', vs', e, b1, b2, b3, b4, b5⟩
      · cases hq
      · exact .inr ⟨c, o, cap, [], rfl, a1, a2, ⟨a3.1, ht _ a3.2⟩, by rw [hcs]; simp only [VRels], by intro i u hu; simp at hu⟩
      · cases e
        exact .inr ⟨c, o, cap, vs', rfl, b1, b2, ⟨a3.1, ht _ a3.2⟩, VRels.mono hle _ _ b4, fun i u hu => hle.fr _ _ _ (b5 i u hu)⟩
  have none' : RetGood G G' h nt u (v1, []) := ⟨none, rfl, (by intro _ _ h; cases h), fun G'' hle _ => VRel.mono hle _ _ hv1⟩
  unfold retok
  split
  · rename_i cs n t z cs1 n1 r
    split
    · rename_i hc
      obtain ⟨c1, c2, c3⟩ := hc
      refine ⟨some (t, n), rfl, fun t0 N e => by cases e; exact ⟨c1, c2⟩, fun G'' hle ht => ?_⟩
      exact key hv hv1 c3 hle (fun x hx => ht t n rfl x hx)
    · exact none'
  · rename_i cs n t z rest0 cs1 n1 r rest
    split
    · rename_i hc
      obtain ⟨c1, c2, c3⟩ := hc
      refine ⟨some (t, n), rfl, fun t0 N e => by cases e; exact ⟨c1, c2⟩, fun G'' hle ht => ?_⟩
      simp only [VRel] at hv hv1 ⊢
      obtain ⟨us, rfl, hs⟩ := hv
      obtain ⟨us1, e, hs1⟩ := hv1
      cases e
      simp only [VRels] at hs hs1 ⊢
      obtain ⟨u0, us0, e0, g1, g2⟩ := hs
      obtain ⟨u1, us1, e1, g3, g4⟩ := hs1
      rw [e0] at e1; cases e1
      exact ⟨us, rfl, u0, us0, e0, key g1 g3 c3 hle (fun x hx => ht t n rfl x hx), VRels.mono hle _ _ g4⟩
    · exact none'
  · exact none'

theorem leave_ok {v : AV} {u : Value} {G0 : Ghost} {h0 : H} {w0 : World} (s0 : SRel G0 h0 w0) (s : SRel G h w) (st : Step { G0 with bases := (h0.blk.length, h0.toks.length, h0.maps.length) :: G0.bases } h0 w0 G h w) (hv : VRel G v u) {v' : AV} {h' : H} (he : leave h0.base v h = (v', h')) :
    ∃ G', SRel G' h' w ∧ Step G0 h0 w0 G' h' w ∧ VRel G' v' u := by
  have hmem : (h0.blk.length, h0.toks.length, h0.maps.length) ∈ G.bases := by rw [st.bases]; simp
  have hbs : ∀ β ∈ G0.bases, β ∈ G.bases ∧ β.1 ≤ h0.blk.length ∧ β.2.1 ≤ h0.toks.length ∧ β.2.2 ≤ h0.maps.length := fun β hβ => by
    obtain ⟨h1, h2, h3, _⟩ := s0.bases β hβ
    refine ⟨by rw [st.bases]; simp [hβ], h1, h2, h3⟩
  obtain ⟨b1, b2, b3, _⟩ := s.bases _ hmem
  simp only at b1 b2 b3
  have hle0 : ∀ (nm' : Nat) (ot : Option (Nat × Nat)), h0.maps.length ≤ nm' → G0.Le (G.leave h w h0.blk.length h0.toks.length nm' ot G0.bases) := fun nm' ot hm => by
    refine ⟨fun b c hq => ?_, fun c o x hq => ?_, fun t n x hq => ?_, fun m c hq => ?_⟩
    · simp only [Ghost.leave, if_pos (s0.dom.φ b c hq)]; exact st.le.φ b c hq
    · have := st.le.fr c o x hq
      simp only [Ghost.leave]
      split
      · exact s.fr c o x this
      · exact this
    · simp only [Ghost.leave, if_pos (s0.dom.tk t n x hq)]; exact st.le.tk t n x hq
    · have := s0.dom.mp m c hq
      simp only [Ghost.leave]; rw [if_pos (by omega)]; exact st.le.mp m c hq
  have hpend : ∀ (nm' : Nat) (ot : Option (Nat × Nat)), (∀ b c, (G.leave h w h0.blk.length h0.toks.length nm' ot G0.bases).φ b = some c → b < h0.blk.length → G0.φ b = some c) ∧ h0.blk.length ≤ (h.blk.take h0.blk.length).length := fun nm' ot => by
    refine ⟨fun b c hq hl => st.pend.1 b c ?_ hl, by simp; omega⟩
    simp only [Ghost.leave, if_pos hl] at hq; exact hq
  have hfrn : ∀ (nm' : Nat) (ot : Option (Nat × Nat)) (c o : Nat) (x : Value), (G.leave h w h0.blk.length h0.toks.length nm' ot G0.bases).fr c o = some x → G0.fr c o = some x ∨ w0.heap.size ≤ c ∨ Own G0 h0 c := fun nm' ot c o x hx => by
    simp only [Ghost.leave] at hx
    split at hx
    · rename_i hc
      obtain ⟨b, sb, _, hb, hl⟩ := hc
      rcases st.own c (.inl ⟨b, sb, hb, hl⟩) with q | q
      · exact .inr (.inr q)
      · exact .inr (.inl q)
    · exact st.frnew c o x hx
  have hown0 : ∀ c, Own { G0 with bases := (h0.blk.length, h0.toks.length, h0.maps.length) :: G0.bases } h0 c ↔ Own G0 h0 c := fun c => Iff.rfl
  unfold leave H.base at he
  simp only at he
  split at he
  · rename_i hb
    simp only [Prod.mk.injEq] at he
    obtain ⟨rfl, rfl⟩ := he
    obtain ⟨q1, q2, q3, q4⟩ := s.leave hmem hbs (Nat.le_refl _) b3 none (by intro _ _ h; cases h)
    simp only [newToks, List.append_nil] at q1 q3
    exact ⟨_, q1, ⟨hle0 _ _ (Nat.le_refl _), st.os, st.tape, st.output, st.size, fun c hc hn => st.keep c hc hn, fun c ho => st.own c (q3 c ho), rfl, hpend _ _, hfrn _ _⟩, VRel.below q2 _ _ hb hv⟩
  · split at he
    · rename_i hb
      have hmk : ∃ nm', h0.maps.length ≤ nm' ∧ nm' ≤ h.maps.length ∧ (frz h0.blk.length h0.toks.length h 6 v).bnd h0.blk.length h0.toks.length nm' = true ∧
          (if (frz h0.blk.length h0.toks.length h 6 v).bnd h0.blk.length h0.toks.length h0.maps.length then h.maps.take h0.maps.length else h.maps) = h.maps.take nm' := by
        by_cases hb2 : (frz h0.blk.length h0.toks.length h 6 v).bnd h0.blk.length h0.toks.length h0.maps.length = true
        · exact ⟨h0.maps.length, Nat.le_refl _, b3, hb2, by rw [if_pos hb2]⟩
        · exact ⟨h.maps.length, b3, Nat.le_refl _, hb, by rw [if_neg hb2]; simp⟩
      obtain ⟨nm', m1, m2, m3, m4⟩ := hmk
      rw [m4] at he
      -- first without a token, to have the frozen value; then with it
      obtain ⟨p1, p2, p3, p4⟩ := s.leave hmem hbs m1 m2 none (by intro _ _ h; cases h)
      have hfz := frz_rel s p2 p4 6 v u hv m3
      obtain ⟨ot, e1, e2, e3⟩ := retok_rel (h := h) (nt := h0.toks.length) hv hfz
      obtain ⟨q1, q2, q3, q4⟩ := s.leave hmem hbs m1 m2 ot e2
      have he' : v' = (retok h0.toks.length h v (frz h0.blk.length h0.toks.length h 6 v)).1 ∧ h' = ⟨h.blk.take h0.blk.length, h.toks.take h0.toks.length ++ newToks ot, h.maps.take nm'⟩ := by
        rw [← e1]
        generalize retok h0.toks.length h v (frz h0.blk.length h0.toks.length h 6 v) = rr at he
        obtain ⟨r1, r2⟩ := rr
        simp only [Prod.mk.injEq] at he
        exact ⟨he.1.symm, he.2.symm⟩
      obtain ⟨rfl, rfl⟩ := he'
      refine ⟨_, q1, ⟨hle0 _ _ m1, st.os, st.tape, st.output, st.size, fun c hc hn => st.keep c hc hn, fun c ho => st.own c (q3 c ho), rfl, hpend _ _, hfrn _ _⟩, ?_⟩
      refine e3 _ ?_ ?_
      · refine ⟨fun b c hq => hq, fun c o x hq => hq, fun t n x hq => ?_, fun m c hq => hq⟩
        simp only [Ghost.leave] at hq ⊢
        split at hq
        · rename_i ht; rw [if_pos ht]; exact hq
        · cases hq
      · intro t0 N hot x hx
        simp only [Ghost.leave, Nat.lt_irrefl, if_false, hot, and_self, if_true]
        exact hx
    · simp only [Prod.mk.injEq] at he
      obtain ⟨rfl, rfl⟩ := he
      have hleB : G.Le { G with bases := G0.bases } := ⟨fun _ _ h => h, fun _ _ _ h => h, fun _ _ _ h => h, fun _ _ h => h⟩
      refine ⟨{ G with bases := G0.bases }, ?_, ?_, ?_⟩
      · refine ⟨⟨s.dom.φ, s.dom.tk, s.dom.mp⟩, ?_, s.tok, ?_, s.fr, s.injφ, s.φfr, s.φtk, s.tkle, s.injtk, s.injmp, fun β hβ => ?_⟩
        · intro b c hq
          obtain ⟨cs, arr, e, h1, h2, h2', h3⟩ := s.blk b c hq
          exact ⟨cs, arr, e, h1, h2, h2', VRels.mono hleB _ _ h3⟩
        · intro m c hq
          obtain ⟨M, es, ck, h1, h2, h3⟩ := s.map m c hq
          exact ⟨M, es, ck, h1, h2, h3.mono hleB⟩
        · exact s.bases β (hbs β hβ).1
      · exact ⟨⟨st.le.φ, st.le.fr, st.le.tk, st.le.mp⟩, st.os, st.tape, st.output, st.size, fun c hc hn => st.keep c hc hn, fun c ho => st.own c ho, rfl, st.pend, st.frnew⟩
      · exact VRel.mono hleB _ _ hv

theorem SRel.push (s : SRel G h w) : SRel { G with bases := (h.blk.length, h.toks.length, h.maps.length) :: G.bases } h w := by
  have hle : G.Le { G with bases := (h.blk.length, h.toks.length, h.maps.length) :: G.bases } := ⟨fun _ _ h => h, fun _ _ _ h => h, fun _ _ _ h => h, fun _ _ h => h⟩
  refine ⟨⟨s.dom.φ, s.dom.tk, s.dom.mp⟩, ?_, s.tok, ?_, s.fr, s.injφ, s.φfr, s.φtk, s.tkle, s.injtk, s.injmp, fun β hβ => ?_⟩
  · intro b c hq
    obtain ⟨cs, arr, e, h1, h2, h2', h3⟩ := s.blk b c hq
    exact ⟨cs, arr, e, h1, h2, h2', VRels.mono hle _ _ h3⟩
  · intro m c hq
    obtain ⟨M, es, ck, h1, h2, h3⟩ := s.map m c hq
    exact ⟨M, es, ck, h1, h2, h3.mono hle⟩
  · rcases List.mem_cons.1 hβ with rfl | hβ
    · refine ⟨Nat.le_refl _, Nat.le_refl _, Nat.le_refl _, fun b c cs hq _ hcs => ?_⟩
      obtain ⟨cs', arr, e, h1, h2, _, h3⟩ := s.blk b c hq
      rw [hcs] at h1; cases h1
      exact VRels.bnd s.dom _ _ h3
    · exact s.bases β hβ

theorem acall_okB {S : Summ} {D : Base → Draws} {n : Nat} {f : FuncId} {args : List AV} {h : H} {v : AV} {h' : H} (hS : SummB P h.blk.length S) (hD : DrawsB P h.base D) (he : acall P S D n f args h = some (v, h')) : CallOk P f args h v h' := by
  intro G w vs s hgl hr
  unfold acall at he
  split at he
  · rename_i fn hfn
    split at he
    · rename_i c hc
      have hl := hr.length
      have key : ∀ (x : AX) (A : List AV) (h1 : H), exec P S D h.base n c (args ++ List.replicate (fn.ntmps - args.length) .undef) h = some (x, A, h1) → (x = .normal ∨ x = .ret) → ∀ vs', resvs P h1 A fn.results.toList = some vs' → leave h.base (oneOrTup vs') h1 = (v, h') →
          Calls P f vs.toArray w (fun e w' => ∃ G' u, e = .returned u ∧ Step G h w G' h' w' ∧ SRel G' h' w' ∧ VRel G' v u) := by
        intro x A h1 hex hx vs' hvs' hlv
        refine calls_of_wp hfn hc ?_
        refine exec_ok (β := h.base) hS hD c _ _ _ _ _ hex _ w _ s.push ?_ ?_ _ (fun G1 a1 w1 st1 s1 r1 => ?_)
        · intro γ hγ
          rcases List.mem_cons.1 hγ with rfl | hγ
          · exact Nat.le_refl _
          · exact (s.bases γ hγ).1
        · refine ⟨?_, rfl, hgl⟩
          simp only [Array.toList_append, Array.toList_replicate, List.size_toArray]
          rw [← hl]
          have hle : G.Le { G with bases := (h.blk.length, h.toks.length, h.maps.length) :: G.bases } := ⟨fun _ _ h => h, fun _ _ _ h => h, fun _ _ _ h => h, fun _ _ h => h⟩
          exact (VRels.mono hle _ _ hr).append (VRels.replicate (undef_rel _) _)
        · obtain ⟨u, hu1, hu2⟩ := results_ok s1 r1 hvs'
          obtain ⟨G', g1, g2, g3⟩ := leave_ok s s1 st1 hu2 hlv
          have : bodyPost P fn (fun e w' => ∃ G' u, e = .returned u ∧ Step G h w G' h' w' ∧ SRel G' h' w' ∧ VRel G' v u) .ret a1 w1 := ⟨r1.defers, u, hu1, G', u, rfl, g2, g1, g3⟩
          rcases hx with rfl | rfl
          · exact this
          · exact this
      split at he
      · cases he
      · rename_i x A h1 hne hex
        split at he
        · rename_i vs' hvs'
          refine key x A h1 hex ?_ vs' hvs' (by simpa using he)
          cases x
          · exact .inl rfl
          · exact (hne _ rfl).elim
          · exact .inr rfl
        · cases he
      · cases he
    · cases he
  · cases he
theorem acall_ok {S : Summ} (hS : SummOk P S) {D : Base → Draws} (hD : DrawsOk P D) {n : Nat} {f : FuncId} {args : List AV} {h : H} {v : AV} {h' : H} (he : acall P S D n f args h = some (v, h')) : CallOk P f args h v h' := acall_okB hS.b (hD _) he
end
end Go.VM
end
section
/- Regions that draw their order: what one operation hangs on. -/
namespace Go.VM
set_option linter.unusedSectionVars false
variable [Inhabited Globs]

abbrev Pures := FuncId → List AV → Option AV
def pureS (p : Pures) : Summ := fun f args h => (p f args).map fun v => (v, h)
def PureOk (P : Program) (p : Pures) : Prop := ∀ f args v, p f args = some v → callable P f = true ∧ ∀ h, CallOk P f args h v h

def quietKind : Op → Bool
  | .move _ | .assign _ | .pick .. | .build .. | .buildSlice .. | .load .. | .nilCheck _ | .binOp .. | .unOp .. | .convert .. | .slice .. | .fieldAddr .. | .field .. | .indexAddr .. | .index .. | .lookup .. | .extract .. | .makeFunc .. => true
  | .call { callee := .value _, .. } => true
  | .call { callee := .builtin .len, .. } => true
  | .call { callee := .builtin .min, .. } => true
  | .call { callee := .builtin .max, .. } => true
  | _ => false
def readsH : Op → Bool
  | .load .. | .lookup .. => true
  | .call { callee := .builtin .len, .. } => true
  | .call { callee := .value _, .. } => true
  | _ => false
def allocKind : Op → Bool
  | .alloc _ => true
  | _ => false
def effKind : Op → Bool
  | .store .. | .mapUpdate .. | .insert .. => true
  | _ => false

theorem pureS_ok {P : Program} {p : Pures} (h : PureOk P p) : SummOk P (pureS p) := by
  intro f args hh v h' he
  simp only [pureS, Option.map_eq_some_iff, Prod.mk.injEq] at he
  obtain ⟨x, hx, rfl, rfl⟩ := he
  exact ⟨(h f args x hx).1, (h f args x hx).2 hh⟩

section
variable {P : Program} {p : Pures} {β : Base} {o : Oper} {A A' : List AV} {h h' h2 : H} {v : AV}

/-- a quiet operation: its value, and how it hangs on the heap -/
theorem quiet_form (hq : quietKind o.op = true) : ∃ f : H → Option AV, (∀ h, aop P (pureS p) β o A h = (f h).map fun v => (v, h)) ∧ (readsH o.op = false → ∀ h h2, f h = f h2) ∧
    (∀ h zs v, f h = some v → f { h with blk := h.blk ++ zs } = some v) := by
  cases hop : o.op <;> simp only [hop, quietKind, Bool.false_eq_true] at hq
  case move x => exact ⟨fun _ => some (aev A x), fun h => by simp [aop, hop], fun _ _ _ => rfl, fun _ _ _ e => e⟩
  case assign x => exact ⟨fun _ => some (aev A x), fun h => by simp [aop, hop], fun _ _ _ => rfl, fun _ _ _ e => e⟩
  case pick c x y =>
    refine ⟨fun _ => (match aev A c with | .bool t => some (if t then aev A x else aev A y) | _ => none), fun h => ?_, fun _ _ _ => rfl, fun _ _ _ e => e⟩
    simp only [aop, hop]; cases aev A c <;> rfl
  case build t ps => exact ⟨fun _ => _, fun h => by simp only [aop, hop]; rfl, fun _ _ _ => rfl, fun _ _ _ e => e⟩
  case buildSlice t n ps => exact ⟨fun _ => _, fun h => by simp only [aop, hop]; rfl, fun _ _ _ => rfl, fun _ _ _ e => e⟩
  case load t x =>
    refine ⟨fun h => (match h.target (aev A x) with | some cs => aLoad P t cs | none => none), fun h => ?_, fun e => by simp [readsH] at e, fun h zs v e => ?_⟩
    · simp only [aop, hop]; cases h.target (aev A x) <;> rfl
    · simp only at e ⊢
      split at e
      · rename_i cs hcs
        cases hx : aev A x <;> rw [hx] at hcs <;> simp only [H.target, reduceCtorEq] at hcs ⊢
        case ptr b o =>
          rw [Option.map_eq_some_iff] at hcs
          obtain ⟨c0, h1, rfl⟩ := hcs
          have hlt := (List.getElem?_eq_some_iff.1 h1).1
          rw [List.getElem?_append_left hlt, h1]; exact e
        case cptr cs0 => cases hcs; exact e
      · cases e
  case nilCheck x =>
    refine ⟨fun _ => (match aev A x with | .ptr b k => some (.ptr b k) | .cptr cs => some (.cptr cs) | _ => none), fun h => ?_, fun _ _ _ => rfl, fun _ _ _ e => e⟩
    simp only [aop, hop]; cases aev A x <;> rfl
  case binOp op t x y ty => exact ⟨fun _ => _, fun h => by simp only [aop, hop]; rfl, fun _ _ _ => rfl, fun _ _ _ e => e⟩
  case unOp op t x => exact ⟨fun _ => _, fun h => by simp only [aop, hop]; rfl, fun _ _ _ => rfl, fun _ _ _ e => e⟩
  case convert t t' x => exact ⟨fun _ => _, fun h => by simp only [aop, hop]; rfl, fun _ _ _ => rfl, fun _ _ _ e => e⟩
  case slice t x lo hi mx => exact ⟨fun h => aSlice P t (aev A x) (lo.map (aev A)) (hi.map (aev A)) (mx.map (aev A)) h, fun h => by simp only [aop, hop], fun _ _ _ => rfl, fun _ _ _ e => e⟩
  case fieldAddr t x f => exact ⟨fun _ => _, fun h => by simp only [aop, hop]; rfl, fun _ _ _ => rfl, fun _ _ _ e => e⟩
  case field t x f => exact ⟨fun _ => _, fun h => by simp only [aop, hop]; rfl, fun _ _ _ => rfl, fun _ _ _ e => e⟩
  case indexAddr t x i => exact ⟨fun _ => _, fun h => by simp only [aop, hop]; rfl, fun _ _ _ => rfl, fun _ _ _ e => e⟩
  case index t x i => exact ⟨fun _ => _, fun h => by simp only [aop, hop]; rfl, fun _ _ _ => rfl, fun _ _ _ e => e⟩
  case lookup t x i ok => exact ⟨fun h => aLookup P t (aev A x) (aev A i) ok h, fun h => by simp only [aop, hop], fun e => by simp [readsH] at e, fun h zs v e => e⟩
  case extract t i =>
    refine ⟨fun _ => (match aev A t with | .tup vs => vs[i]? | _ => none), fun h => ?_, fun _ _ _ => rfl, fun _ _ _ e => e⟩
    simp only [aop, hop]; cases aev A t <;> rfl
  case makeFunc f a b => exact ⟨fun _ => some _, fun h => by simp only [aop, hop]; rfl, fun _ _ _ => rfl, fun _ _ _ e => e⟩
  case call c =>
    obtain ⟨callee, args, argTypes⟩ := c
    cases callee with
    | value f =>
      refine ⟨fun _ => (match aev A f with | .fn (.func i) first cap => p i (first ++ args.toList.map (aev A) ++ cap) | _ => none), fun h => ?_, fun _ _ _ => rfl, fun _ _ _ e => e⟩
      simp only [aop, hop, aCall, pureS]
      cases hx : aev A f <;> try rfl
      rename_i fn _ _
      cases fn <;> rfl
    | invoke r m => simp at hq
    | builtin b =>
      cases b <;> simp only [Bool.false_eq_true] at hq
      · refine ⟨fun h => (match args.toList.map (aev A), argTypes.toList with | [x], t :: _ => aLen P t x h | _, _ => none), fun h => ?_, fun e => by simp [readsH] at e, fun h zs v e => ?_⟩
        · simp only [aop, hop]
          rcases args.toList.map (aev A) with _ | ⟨x, _ | ⟨_, _⟩⟩ <;> rcases argTypes.toList with _ | ⟨t, ts⟩ <;> rfl
        · exact e
      · exact ⟨fun _ => _, fun h => by simp only [aop, hop]; rfl, fun _ _ _ => rfl, fun _ _ _ e => e⟩
      · exact ⟨fun _ => _, fun h => by simp only [aop, hop]; rfl, fun _ _ _ => rfl, fun _ _ _ e => e⟩
end
end Go.VM
end
section
/- Regions that draw their order: slots, and what stands before what. -/
namespace Go.VM
set_option linter.unusedSectionVars false
variable [Inhabited Globs]
section
variable {P : Program}

theorem map_congr' {A A' : List AV} {xs : List Operand} (h : ∀ x ∈ xs, aev A x = aev A' x) : xs.map (aev A) = xs.map (aev A') := List.map_congr_left h

theorem aop_congr {S : Summ} {β : Base} {o : Oper} {A A' : List AV} (hh : ∀ x ∈ o.op.operands, aev A x = aev A' x) (h : H) : aop P S β o A h = aop P S β o A' h := by
  have parts : ∀ (ps : Array (Nat × Operand)), (∀ x ∈ (ps.toList.map (·.2)), aev A x = aev A' x) → ps.toList.map (fun (i, x) => (i, aev A x)) = ps.toList.map (fun (i, x) => (i, aev A' x)) := fun ps hp =>
    List.map_congr_left fun q hq => by
      have := hp q.2 (List.mem_map.2 ⟨q, hq, rfl⟩)
      simp [this]
  have opt : ∀ (x : Option Operand), (∀ y ∈ x.toArray, aev A y = aev A' y) → x.map (aev A) = x.map (aev A') := fun x hx => by
    cases x with
    | none => rfl
    | some y => simp [hx y (by simp)]
  cases hop : o.op <;> simp only [hop, Op.operands] at hh <;> simp only [aop, hop]
  case build t ps => rw [parts ps (fun x hx => hh x (by simpa using hx))]
  case buildSlice t n ps => rw [parts ps (fun x hx => hh x (by simpa using hx))]
  case slice t x lo hi mx =>
    rw [hh x (by simp), opt lo (fun y hy => hh y (by simp at hy ⊢; simp [hy])), opt hi (fun y hy => hh y (by simp at hy ⊢; simp [hy])), opt mx (fun y hy => hh y (by simp at hy ⊢; simp [hy]))]
  case makeMap t x => rw [opt x hh]
  case makeFunc f a b =>
    rw [map_congr' (xs := a.toList) (fun x hx => hh x (by simp at hx ⊢; simp [hx])), map_congr' (xs := b.toList) (fun x hx => hh x (by simp at hx ⊢; simp [hx]))]
  case call c =>
    have hargs : c.args.toList.map (aev A) = c.args.toList.map (aev A') := map_congr' (fun x hx => hh x (by simp at hx; simp [Call.operands, hx]))
    rw [hargs]
    cases hc : c.callee with
    | value f => simp only; rw [hh f (by simp [Call.operands, hc])]
    | invoke r m => rfl
    | builtin b => rfl
  case move x => rw [hh x (by simp)]
  case assign x => rw [hh x (by simp)]
  case pick a b c => rw [hh a (by simp), hh b (by simp), hh c (by simp)]
  case box e x => rw [hh x (by simp)]
  case load t x => rw [hh x (by simp)]
  case nilCheck x => rw [hh x (by simp)]
  case unOp op t x => rw [hh x (by simp)]
  case convert s t x => rw [hh x (by simp)]
  case fieldAddr t x f => rw [hh x (by simp)]
  case field t x f => rw [hh x (by simp)]
  case extract x i => rw [hh x (by simp)]
  case store t a b => rw [hh a (by simp), hh b (by simp)]
  case binOp op t a b ty => rw [hh a (by simp), hh b (by simp)]
  case makeSlice t a b => rw [hh a (by simp), hh b (by simp)]
  case indexAddr t a b => rw [hh a (by simp), hh b (by simp)]
  case index t a b => rw [hh a (by simp), hh b (by simp)]
  case lookup t a b ok => rw [hh a (by simp), hh b (by simp)]
  case mapUpdate t a b c => rw [hh a (by simp), hh b (by simp), hh c (by simp)]
  case insert t a b c => rw [hh a (by simp), hh b (by simp), hh c (by simp)]

theorem aev_of_slots {A A' : List AV} {x : Operand} (h : ∀ t, x = .tmp t → A[t]? = A'[t]?) : aev A x = aev A' x := by
  cases x <;> simp only [aev]
  rename_i t
  simp [List.getD, h t rfl]

/-! ### what stands before what -/
def isAnc (b : Array Nat) (i j : Nat) : Bool := (b.getD j 0).testBit i

def edgesIn (acc : Array Nat) (l : List Edge) (s : Nat) : Nat := l.foldl (fun s e => if Region.binds .any e then s ||| 2 ^ e.on ||| acc.getD e.on 0 else s) s

theorem edgesIn_bit {acc : Array Nat} {i : Nat} : ∀ {l : List Edge} {s : Nat}, (edgesIn acc l s).testBit i = true → s.testBit i = true ∨ ∃ e ∈ l, Region.binds .any e = true ∧ (i = e.on ∨ (acc.getD e.on 0).testBit i = true)
  | [], s, h => .inl h
  | e :: l, s, h => by
    simp only [edgesIn, List.foldl_cons] at h
    rcases edgesIn_bit (l := l) h with h1 | ⟨e', h1, h2⟩
    · split at h1
      · rename_i hb
        simp only [Nat.testBit_or, Bool.or_eq_true, Nat.testBit_two_pow, decide_eq_true_eq] at h1
        rcases h1 with (h1 | h1) | h1
        · exact .inl h1
        · exact .inr ⟨e, by simp, hb, .inl h1.symm⟩
        · exact .inr ⟨e, by simp, hb, .inr h1⟩
      · exact .inl h1
    · exact .inr ⟨e', by simp [h1], h2⟩

def BeforeOk (ops : List Oper) (acc : Array Nat) : Prop :=
  acc.size = ops.length ∧ ∀ (j i : Nat) (o : Oper), ops[j]? = some o → isAnc acc i j = true → ∃ e ∈ o.after, Region.binds .any e = true ∧ (i = e.on ∨ (e.on < j ∧ isAnc acc i e.on = true))

theorem before_go : ∀ (rest done : List Oper) (acc : Array Nat), BeforeOk done acc →
    BeforeOk (done ++ rest) (rest.foldl (init := acc) fun acc o => acc.push (o.after.foldl (fun s e => if Region.binds .any e then s ||| 2 ^ e.on ||| acc.getD e.on 0 else s) 0))
  | [], done, acc, h => by simpa using h
  | o :: rest, done, acc, h => by
    simp only [List.foldl_cons]
    have := before_go rest (done ++ [o]) (acc.push (o.after.foldl (fun s e => if Region.binds .any e then s ||| 2 ^ e.on ||| acc.getD e.on 0 else s) 0)) ?_
    · simpa using this
    · obtain ⟨hs, hh⟩ := h
      have hold : ∀ j, j < acc.size → (acc.push (o.after.foldl (fun s e => if Region.binds .any e then s ||| 2 ^ e.on ||| acc.getD e.on 0 else s) 0)).getD j 0 = acc.getD j 0 := fun j hj => by
        simp [Array.getD_eq_getD_getElem?, Array.getElem?_push_lt hj, hj]
      refine ⟨by simp [hs], fun j i o' ho hb => ?_⟩
      by_cases hj : j < done.length
      · rw [List.getElem?_append_left hj] at ho
        simp only [isAnc, hold j (by omega)] at hb
        obtain ⟨e, h1, h2, h3⟩ := hh j i o' ho hb
        refine ⟨e, h1, h2, h3.imp id fun ⟨q1, q2⟩ => ⟨q1, ?_⟩⟩
        simp only [isAnc, hold e.on (by omega)]; exact q2
      · rw [List.getElem?_append_right (by omega)] at ho
        have hj' : j = acc.size := by
          have := (List.getElem?_eq_some_iff.1 ho).1
          simp at this; omega
        subst hj'
        simp [hs] at ho; subst ho
        have hval : (acc.push (o.after.foldl (fun s e => if Region.binds .any e then s ||| 2 ^ e.on ||| acc.getD e.on 0 else s) 0)).getD acc.size 0 = edgesIn acc o.after.toList 0 := by
          simp [Array.getD_eq_getD_getElem?, edgesIn, Array.foldl_toList]
        simp only [isAnc, hval] at hb
        rcases edgesIn_bit hb with q | ⟨e, q1, q2, q3⟩
        · simp at q
        · refine ⟨e, by simpa using q1, q2, q3.imp id fun q => ?_⟩
          have hlt : e.on < acc.size := by
            rcases Nat.lt_or_ge e.on acc.size with q' | q'
            · exact q'
            · simp [Array.getD_eq_getD_getElem?, Array.getElem?_eq_none q'] at q
          exact ⟨hlt, by simp only [isAnc, hold _ hlt]; exact q⟩

theorem before_ok (ops : Array Oper) : BeforeOk ops.toList (Region.before ops) := by
  have := before_go ops.toList [] #[] ⟨rfl, fun j i o ho => by simp at ho⟩
  simpa [Region.before, Array.foldl_toList] using this

/-- closed under the edges that bind -/
def Closed (ops : Array Oper) (D : Nat → Bool) : Prop := ∀ (j : Nat) (o : Oper), ops[j]? = some o → D j = true → ∀ e ∈ o.after, Region.binds .any e = true → D e.on = true

theorem anc_closed {ops : Array Oper} {D : Nat → Bool} (hD : Closed ops D) : ∀ (n j : Nat), j ≤ n → ∀ (i : Nat) (o : Oper), ops[j]? = some o → (∀ e ∈ o.after, Region.binds .any e = true → D e.on = true) → isAnc (Region.before ops) i j = true → D i = true := by
  intro n
  induction n with
  | zero =>
    intro j hj i o ho hp hb
    obtain ⟨e, h1, h2, h3⟩ := (before_ok ops).2 j i o (by simpa using ho) hb
    rcases h3 with rfl | ⟨h3, _⟩
    · exact hp e h1 h2
    · omega
  | succ n ih =>
    intro j hj i o ho hp hb
    obtain ⟨e, h1, h2, h3⟩ := (before_ok ops).2 j i o (by simpa using ho) hb
    rcases h3 with rfl | ⟨h3, h4⟩
    · exact hp e h1 h2
    · have hon := hp e h1 h2
      obtain ⟨o', ho'⟩ : ∃ o', ops[e.on]? = some o' := by
        have : j < ops.size := (Array.getElem?_eq_some_iff.1 ho).1
        exact ⟨ops[e.on], by simp [show e.on < ops.size by omega]⟩
      exact ih e.on (by omega) i o' ho' (fun e' he' hb' => hD e.on o' ho' hon e' he' hb') h4

theorem anc_in {ops : Array Oper} {D : Nat → Bool} (hD : Closed ops D) {i j : Nat} {o : Oper} (ho : ops[j]? = some o) (hj : D j = true) (hb : isAnc (Region.before ops) i j = true) : D i = true :=
  anc_closed hD j j (Nat.le_refl _) i o ho (fun e he hb => hD j o ho hj e he hb) hb

def names (ops : Array Oper) (o : Oper) : List Tmp := o.looksAt ops ++ o.dst.toList

def hazard (ops : Array Oper) (x y : Oper) : Bool := x.dst.any (fun d => (names ops y).contains d) || y.dst.any (fun d => (names ops x).contains d)

/-- a region whose every order comes to the order of the text: slots, effects behind all that reads -/
def simpleRegion (ops : Array Oper) : Bool :=
  let b := Region.before ops
  let l := ops.toList.zipIdx
  l.all fun (y, j) =>
    (y.after.toList.all fun e => !Region.binds .any e || decide (e.on < j)) && (quietKind y.op || allocKind y.op || effKind y.op) &&
    l.all fun (x, i) =>
      (!decide (i < j) || !hazard ops x y || isAnc b i j) &&
      (!effKind y.op || !(readsH x.op || allocKind x.op) || (isAnc b i j && decide (i < j))) &&
      (!decide (i < j) || !(effKind x.op && effKind y.op) || isAnc b i j)

structure Simple (ops : Array Oper) : Prop where
  edge : ∀ (j : Nat) (y : Oper), ops[j]? = some y → ∀ e ∈ y.after, Region.binds .any e = true → e.on < j
  kind : ∀ (j : Nat) (y : Oper), ops[j]? = some y → quietKind y.op = true ∨ allocKind y.op = true ∨ effKind y.op = true
  slot : ∀ (i j : Nat) (x y : Oper), ops[i]? = some x → ops[j]? = some y → i < j → hazard ops x y = true → isAnc (Region.before ops) i j = true
  read : ∀ (i j : Nat) (x y : Oper), ops[i]? = some x → ops[j]? = some y → effKind y.op = true → (readsH x.op = true ∨ allocKind x.op = true) → isAnc (Region.before ops) i j = true ∧ i < j
  eff : ∀ (i j : Nat) (x y : Oper), ops[i]? = some x → ops[j]? = some y → i < j → effKind x.op = true → effKind y.op = true → isAnc (Region.before ops) i j = true

theorem simple_of {ops : Array Oper} (h : simpleRegion ops = true) : Simple ops := by
  unfold simpleRegion at h
  have mem : ∀ {j : Nat} {y : Oper}, ops[j]? = some y → (y, j) ∈ ops.toList.zipIdx := fun {j y} hy => by
    rw [List.mem_zipIdx_iff_getElem?]; simpa using hy
  have one : ∀ {j : Nat} {y : Oper}, ops[j]? = some y → _ := fun {j y} hy => List.all_eq_true.1 h (y, j) (mem hy)
  refine ⟨fun j y hy e he hb => ?_, fun j y hy => ?_, fun i j x y hx hy hij hz => ?_, fun i j x y hx hy he hr => ?_, fun i j x y hx hy hij h1 h2 => ?_⟩
  · have := one hy
    simp only [Bool.and_eq_true] at this
    have q := this.1.1
    have := List.all_eq_true.1 q e (by simpa using he)
    simpa [hb] using this
  · have := one hy
    simp only [Bool.and_eq_true, Bool.or_eq_true] at this
    rcases this.1.2 with (q | q) | q
    · exact .inl q
    · exact .inr (.inl q)
    · exact .inr (.inr q)
  · have := one hy
    simp only [Bool.and_eq_true] at this
    have q := List.all_eq_true.1 this.2 (x, i) (mem hx)
    simp only [Bool.and_eq_true] at q
    simpa [hij, hz] using q.1.1
  · have := one hy
    simp only [Bool.and_eq_true] at this
    have q := List.all_eq_true.1 this.2 (x, i) (mem hx)
    simp only [Bool.and_eq_true] at q
    have q2 := q.1.2
    rcases hr with hr | hr
    · simpa [he, hr] using q2
    · simpa [he, hr] using q2
  · have := one hy
    simp only [Bool.and_eq_true] at this
    have q := List.all_eq_true.1 this.2 (x, i) (mem hx)
    simp only [Bool.and_eq_true] at q
    simpa [hij, h1, h2] using q.2
end
end Go.VM
end
section
/- Regions that draw their order: the trace of the text's order. -/
namespace Go.VM
set_option linter.unusedSectionVars false
variable [Inhabited Globs]
section
variable {P : Program} {G : Ghost} {w : World}

/-- the text's order, step by step -/
structure Trace (P : Program) (S : Summ) (β : Base) (ops : Array Oper) (A : List AV) (h : H) (A' : List AV) (h' : H) (As : Nat → List AV) (hs : Nat → H) (vs : Nat → AV) : Prop where
  a0 : As 0 = A
  h0 : hs 0 = h
  an : As ops.size = A'
  hn : hs ops.size = h'
  step : ∀ (i : Nat) (o : Oper), ops[i]? = some o → As (i + 1) = putA (As i) o.dst (vs i) ∧
    ((awant ops (As i) o = some true ∧ aop P S β o (As i) (hs i) = some (vs i, hs (i + 1))) ∨ (awant ops (As i) o = some false ∧ vs i = .undef ∧ hs (i + 1) = hs i))

def TraceL (P : Program) (S : Summ) (β : Base) (ops : Array Oper) (l : List Oper) (A : List AV) (h : H) (A' : List AV) (h' : H) : Prop :=
  ∃ (As : Nat → List AV) (hs : Nat → H) (vs : Nat → AV), As 0 = A ∧ hs 0 = h ∧ As l.length = A' ∧ hs l.length = h' ∧ ∀ (i : Nat) (o : Oper), l[i]? = some o → As (i + 1) = putA (As i) o.dst (vs i) ∧
    ((awant ops (As i) o = some true ∧ aop P S β o (As i) (hs i) = some (vs i, hs (i + 1))) ∨ (awant ops (As i) o = some false ∧ vs i = .undef ∧ hs (i + 1) = hs i))

theorem arun_trace {S : Summ} {β : Base} {ops : Array Oper} : ∀ (l : List Oper) (A : List AV) (h : H) (A' : List AV) (h' : H), arun P S β ops l A h = some (A', h') → TraceL P S β ops l A h A' h'
  | [], A, h, A', h', he => by
    simp only [arun, Option.some.injEq, Prod.mk.injEq] at he
    obtain ⟨rfl, rfl⟩ := he
    exact ⟨fun _ => A, fun _ => h, fun _ => .undef, rfl, rfl, rfl, rfl, fun i o ho => by simp at ho⟩
  | o :: l, A, h, A', h', he => by
    simp only [arun] at he
    have cons : ∀ (v : AV) (h1 : H), arun P S β ops l (putA A o.dst v) h1 = some (A', h') →
        ((awant ops A o = some true ∧ aop P S β o A h = some (v, h1)) ∨ (awant ops A o = some false ∧ v = .undef ∧ h1 = h)) → TraceL P S β ops (o :: l) A h A' h' := fun v h1 hr hc => by
      obtain ⟨As, hs, vs, e1, e2, e3, e4, e5⟩ := arun_trace l _ h1 A' h' hr
      refine ⟨fun n => match n with | 0 => A | n + 1 => As n, fun n => match n with | 0 => h | n + 1 => hs n, fun n => match n with | 0 => v | n + 1 => vs n, rfl, rfl, e3, e4, fun i o' ho' => ?_⟩
      cases i with
      | zero =>
        simp at ho'; subst ho'
        refine ⟨e1, ?_⟩
        simp only [e2]; exact hc
      | succ i => exact e5 i o' (by simpa using ho')
    split at he
    · rename_i hw
      split at he
      · rename_i v h1 hop
        exact cons v h1 he (.inl ⟨hw, hop⟩)
      · cases he
    · rename_i hw
      exact cons .undef h he (.inr ⟨hw, rfl, rfl⟩)
    · cases he

/-- what the operations of D have put -/
def AD (A : List AV) (ops : Array Oper) (vs : Nat → AV) (D : Nat → Bool) : Nat → List AV
  | 0 => A
  | k + 1 => if D k then putA (AD A ops vs D k) ((ops[k]?).bind (·.dst)) (vs k) else AD A ops vs D k

theorem putA_get {A : List AV} {d : Option Tmp} {v : AV} {t : Nat} : (putA A d v)[t]? = if d = some t ∧ t < A.length then some v else A[t]? := by
  cases d with
  | none => simp [putA]
  | some d =>
    simp only [putA, List.getElem?_set]
    by_cases e : d = t
    · subst e
      by_cases hl : d < A.length
      · simp [hl]
      · simp [hl, List.getElem?_eq_none (Nat.le_of_not_lt hl)]
    · simp [e]
theorem putA_len {A : List AV} {d : Option Tmp} {v : AV} : (putA A d v).length = A.length := by cases d <;> simp [putA]
theorem AD_len {A : List AV} {ops : Array Oper} {vs : Nat → AV} {D : Nat → Bool} : ∀ k, (AD A ops vs D k).length = A.length
  | 0 => rfl
  | k + 1 => by simp only [AD]; split <;> simp [putA_len, AD_len k]

theorem AD_same {A : List AV} {ops : Array Oper} {vs : Nat → AV} {D E : Nat → Bool} {t : Nat} : ∀ k, (∀ j, j < k → (ops[j]?).bind (·.dst) = some t → D j = E j) → (AD A ops vs D k)[t]? = (AD A ops vs E k)[t]?
  | 0, _ => rfl
  | k + 1, h => by
    have ih := AD_same (A := A) (vs := vs) k (fun j hj => h j (by omega))
    simp only [AD]
    by_cases hd : (ops[k]?).bind (·.dst) = some t
    · have := h k (by omega) hd
      rw [this]
      split
      · simp only [putA_get, AD_len, ih]
      · exact ih
    · split <;> split <;> simp [putA_get, hd, ih]

theorem AD_text {S : Summ} {β : Base} {ops : Array Oper} {A A' : List AV} {h h' : H} {As : Nat → List AV} {hs : Nat → H} {vs : Nat → AV} (tr : Trace P S β ops A h A' h' As hs vs) {i : Nat} (hi : i ≤ ops.size) :
    ∀ k, k ≤ ops.size → AD A ops vs (fun j => decide (j < i)) k = As (min k i)
  | 0, _ => by simp [AD, tr.a0]
  | k + 1, hk => by
    have ih := AD_text tr hi k (by omega)
    simp only [AD]
    by_cases hki : k < i
    · simp only [hki, decide_true, if_true, ih]
      have ho : ops[k]? = some ops[k] := by simp [show k < ops.size by omega]
      rw [show min k i = k by omega, show min (k + 1) i = k + 1 by omega, (tr.step k _ ho).1, ho]
      rfl
    · simp only [hki, decide_false, Bool.false_eq_true, if_false, ih]
      congr 1; omega
end
end Go.VM
end
section
/- Regions that draw their order: one order serves all. -/
namespace Go.VM
set_option linter.unusedSectionVars false
variable [Inhabited Globs]
section
variable {P : Program} {G : Ghost} {w : World}

theorem SRel.pendBlocks {h : H} (s : SRel G h w) (zs : List (List AV)) : SRel G { h with blk := h.blk ++ zs } w := by
  refine ⟨⟨fun b c hb => by have := s.dom.φ b c hb; simp; omega, s.dom.tk, s.dom.mp⟩, fun b c hb => ?_, s.tok, s.map, s.fr, fun b b' c c' q1 q2 q3 => (s.injφ b b' c c' q1 q2 q3).imp id (Or.imp (fun q => by show (h.blk ++ zs)[b]? = _; rw [List.getElem?_append_left (s.dom.φ _ _ q1)]; exact q) (fun q => by show (h.blk ++ zs)[b']? = _; rw [List.getElem?_append_left (s.dom.φ _ _ q2)]; exact q)), fun b c o q1 q2 => s.φfr b c o q1 (fun q => q2 (by show (h.blk ++ zs)[b]? = _; rw [List.getElem?_append_left (s.dom.φ _ _ q1)]; exact q)), s.φtk, s.tkle, s.injtk, s.injmp, fun β hβ => ?_⟩
  · obtain ⟨cs, arr, e, h1, h2⟩ := s.blk b c hb
    exact ⟨cs, arr, e, by rw [List.getElem?_append_left (s.dom.φ b c hb)]; exact h1, h2⟩
  · obtain ⟨h1, h2, h3, h4⟩ := s.bases β hβ
    exact ⟨by simp; omega, h2, h3, fun b c cs hφ hb hcs => h4 b c cs hφ hb (by rwa [List.getElem?_append_left (s.dom.φ b c hφ)] at hcs)⟩

/-- an abstract block that was waiting comes to be -/
theorem SRel.allocPend {h : H} (s : SRel G h w) {b : Nat} {z : List AV} (hb : h.blk[b]? = some z) (hn : G.φ b = none) (hbase : ∀ β ∈ G.bases, β.1 ≤ b) {arr : Array Value} (e : TypeId) (hv : VRels G z arr.toList) :
    ∃ G', G.Le G' ∧ SRel G' h (w.alloc (.cells arr e)) ∧ G'.φ b = some (w.heap.size, arr.size) ∧ (∀ b', b' ≠ b → G'.φ b' = G.φ b') ∧
      ∀ (G0 : Ghost) (h0 : H) (w0 : World), Step G0 h0 w0 G h w → h0.blk.length ≤ b → Step G0 h0 w0 G' h (w.alloc (.cells arr e)) := by
  let G' : Ghost := { G with φ := fun x => if x = b then some (w.heap.size, arr.size) else G.φ x }
  have hle : G.Le G' := ⟨fun x c hx => by
    show (if x = b then _ else _) = _
    rw [if_neg (fun e => by subst e; rw [hn] at hx; cases hx)]; exact hx, fun _ _ _ h => h, fun _ _ _ h => h, fun _ _ h => h⟩
  have hlt : b < h.blk.length := (List.getElem?_eq_some_iff.1 hb).1
  have hold : ∀ x c, G'.φ x = some c → (x = b ∧ c = (w.heap.size, arr.size)) ∨ (x ≠ b ∧ G.φ x = some c) := fun x c hx => by
    by_cases e : x = b
    · left; refine ⟨e, ?_⟩; simp [G', e] at hx; exact hx.symm
    · right; exact ⟨e, by simpa [G', e] using hx⟩
  have s1 := s.garbage (.cells arr e)
  refine ⟨G', hle, ?_, by simp [G'], fun b' hb' => by simp [G', hb'], ?_⟩
  · refine ⟨⟨fun x c hx => ?_, s.dom.tk, s.dom.mp⟩, fun x c hx => ?_, s1.tok, fun m c hm => ?_, s1.fr, fun x x' c c' h1 h2 he => ?_, fun x c o hx hl => ?_, fun x c t n cap sz hx ht hk => ?_, s.tkle, s.injtk, s.injmp, fun β hβ => ?_⟩
    · rcases hold x c hx with ⟨rfl, _⟩ | ⟨_, hx⟩
      · exact hlt
      · exact s.dom.φ x c hx
    · rcases hold x c hx with ⟨rfl, rfl⟩ | ⟨_, hx⟩
      · exact ⟨z, arr, e, hb, heap_alloc_new w _, rfl, by rw [hv.length, List.take_length]; exact VRels.mono hle _ _ hv⟩
      · obtain ⟨cs, arr', e', h1, h2, h2', h3⟩ := s1.blk x c hx
        exact ⟨cs, arr', e', h1, h2, h2', VRels.mono hle _ _ h3⟩
    · obtain ⟨M, es, ck, h1, h2, h3⟩ := s1.map m c hm
      exact ⟨M, es, ck, h1, h2, h3.mono hle⟩
    · rcases hold x c h1 with ⟨rfl, rfl⟩ | ⟨_, q1⟩
      · rcases hold x' c' h2 with ⟨rfl, _⟩ | ⟨_, q2⟩
        · exact .inl rfl
        · exact absurd (s.φ_lt q2) (by rw [← he]; exact Nat.lt_irrefl _)
      · rcases hold x' c' h2 with ⟨_, rfl⟩ | ⟨_, q2⟩
        · exact absurd (s.φ_lt q1) (by rw [he]; exact Nat.lt_irrefl _)
        · exact s.injφ x x' c c' q1 q2 he
    · rcases hold x c hx with ⟨rfl, rfl⟩ | ⟨_, hx⟩
      · cases hf : G.fr w.heap.size o with
        | none => rfl
        | some v => exact absurd (s.fr_lt hf) (Nat.lt_irrefl _)
      · exact s.φfr x c o hx hl
    · rcases hold x c hx with ⟨rfl, rfl⟩ | ⟨_, hx⟩
      · exact absurd (s.own_lt (.inr (.inl ⟨t, n, cap, sz, ht, hk⟩))) (Nat.lt_irrefl _)
      · exact s.φtk x c t n cap sz hx ht hk
    · obtain ⟨h1, h2, h3, h4⟩ := s.bases β hβ
      refine ⟨h1, h2, h3, fun x c cs hx hxb hcs => ?_⟩
      rcases hold x c hx with ⟨rfl, _⟩ | ⟨_, hx⟩
      · have := hbase β hβ; omega
      · exact h4 x c cs hx hxb hcs
  · intro G0 h0 w0 st hb0
    refine ⟨st.le.trans hle, st.os, st.tape, st.output, Nat.le_trans st.size (by simp), fun c hc hno => ?_, fun c ho => ?_, st.bases, ⟨fun x c hx hl => ?_, st.pend.2⟩, st.frnew⟩
    · rw [heap_alloc_old w _ c (Nat.lt_of_lt_of_le hc st.size)]; exact st.keep c hc hno
    · rcases ho with ⟨x, sx, hx, hl⟩ | ho
      · rcases hold x _ hx with ⟨_, q⟩ | ⟨_, hx⟩
        · cases q; exact .inr st.size
        · exact st.own c (.inl ⟨x, sx, hx, hl⟩)
      · exact st.own c (.inr ho)
    · rcases hold x c hx with ⟨rfl, _⟩ | ⟨_, hx⟩
      · omega
      · exact st.pend.1 x c hx hl

/-- the heap behind the effects of D -/
def HD (hA : H) (ops : Array Oper) (hs : Nat → H) (D : Nat → Bool) : Nat → H
  | 0 => hA
  | k + 1 => if D k && (ops[k]?).any (fun o => effKind o.op) then hs (k + 1) else HD hA ops hs D k

theorem HD_same {hA : H} {ops : Array Oper} {hs : Nat → H} {D E : Nat → Bool} : ∀ k, (∀ j o, j < k → ops[j]? = some o → effKind o.op = true → D j = E j) → HD hA ops hs D k = HD hA ops hs E k
  | 0, _ => rfl
  | k + 1, h => by
    have ih := HD_same (hA := hA) (hs := hs) k (fun j o hj => h j o (by omega))
    simp only [HD]
    cases ho : ops[k]? with
    | none => simpa using ih
    | some o =>
      simp only [Option.any_some]
      by_cases he : effKind o.op = true
      · rw [h k o (by omega) ho he, ih]
      · have he' : effKind o.op = false := by simpa using he
        simp only [he', Bool.and_false, Bool.false_eq_true, if_false]; exact ih

theorem HD_none {hA : H} {ops : Array Oper} {hs : Nat → H} {D : Nat → Bool} (k : Nat) (h : ∀ j o, j < k → ops[j]? = some o → effKind o.op = true → D j = false) : HD hA ops hs D k = hA := by
  induction k with
  | zero => rfl
  | succ k ih =>
    simp only [HD]
    rw [if_neg, ih (fun j o hj => h j o (by omega))]
    intro hc
    simp only [Bool.and_eq_true] at hc
    cases ho : ops[k]? with
    | none => simp [ho] at hc
    | some o =>
      simp only [ho, Option.any_some] at hc
      rw [h k o (by omega) ho hc.2] at hc
      exact absurd hc.1 (by simp)

/-- in the text's order, behind the first effect -/
theorem HD_text {hA : H} {ops : Array Oper} {hs : Nat → H} {f : Nat} (hf : hA = hs f) (hfe : ∀ j o, j < f → ops[j]? = some o → effKind o.op = false) (hstay : ∀ j o, f ≤ j → ops[j]? = some o → effKind o.op = false → hs (j + 1) = hs j) (hsz : ∀ j, ops.size ≤ j → True) {i : Nat} :
    ∀ k, f ≤ k → k ≤ ops.size → k ≤ i → HD hA ops hs (fun j => decide (j < i)) k = hs k := by
  intro k
  induction k with
  | zero => intro h1 _ _; have : f = 0 := by omega
            subst this; exact hf
  | succ k ih =>
    intro h1 h2 h3
    by_cases hk : f ≤ k
    · simp only [HD]
      have ho : ops[k]? = some ops[k] := by simp [show k < ops.size by omega]
      simp only [ho, Option.any_some, show k < i by omega, decide_true, Bool.true_and]
      by_cases he : effKind ops[k].op = true
      · simp [he]
      · have he' : effKind ops[k].op = false := by simpa using he
        simp only [he', Bool.false_eq_true, if_false]
        rw [ih hk (by omega) (by omega), hstay k _ hk ho he']
    · have hfk : f = k + 1 := by omega
      subst hfk
      rw [HD_none]
      · exact hf
      · intro j o hj ho he
        rw [hfe j o hj ho] at he; cases he
end
end Go.VM
end
section
/- Regions that draw their order: the theorem. -/
namespace Go.VM
set_option linter.unusedSectionVars false
variable [Inhabited Globs]
section
variable {P : Program} {G : Ghost} {w : World}

theorem first_eff (ops : Array Oper) : ∀ n, n ≤ ops.size → ∃ f, f ≤ n ∧ (∀ j o, j < f → ops[j]? = some o → effKind o.op = false) ∧ (f < n → ∃ o, ops[f]? = some o ∧ effKind o.op = true)
  | 0, _ => ⟨0, Nat.le_refl _, fun j o hj => absurd hj (Nat.not_lt_zero _), fun h => absurd h (Nat.lt_irrefl _)⟩
  | n + 1, hn => by
    obtain ⟨f, h1, h2, h3⟩ := first_eff ops n (by omega)
    by_cases hf : f < n
    · exact ⟨f, by omega, h2, fun _ => h3 hf⟩
    · have hfn : f = n := by omega
      subst hfn
      have ho : ops[f]? = some ops[f] := by simp [show f < ops.size by omega]
      by_cases he : effKind ops[f].op = true
      · exact ⟨f, by omega, h2, fun _ => ⟨_, ho, he⟩⟩
      · refine ⟨f + 1, Nat.le_refl _, fun j o hj hjo => ?_, fun h => absurd h (Nat.lt_irrefl _)⟩
        by_cases hjf : j < f
        · exact h2 j o hjf hjo
        · have : j = f := by omega
          subst this; rw [ho] at hjo; cases hjo; simpa using he

def unlisted (n : Nat) (listed : Array Bool) : Nat := ((List.range n).filter fun i => !listed.getD i false).length

theorem filter_lt {α : Type} {p q : α → Bool} : ∀ {l : List α} {x : α}, x ∈ l → p x = true → q x = false → (∀ y ∈ l, q y = true → p y = true) → (l.filter q).length < (l.filter p).length
  | [], x, h, _, _, _ => by cases h
  | y :: l, x, h, hp, hq, hi => by
    have hle : (l.filter q).length ≤ (l.filter p).length := by
      have : (l.filter q) = (l.filter p).filter q := by
        rw [List.filter_filter]
        apply List.filter_congr
        intro z hz
        cases hqz : q z
        · simp
        · simp [hi z (by simp [hz]) hqz]
      rw [this]; exact List.length_filter_le _ _
    rcases List.mem_cons.1 h with rfl | h
    · simp only [List.filter_cons, hp, hq, if_true, Bool.false_eq_true, if_false, List.length_cons]; omega
    · have ih := filter_lt h hp hq (fun z hz => hi z (by simp [hz]))
      simp only [List.filter_cons]
      by_cases hqy : q y = true
      · simp only [hqy, hi y (by simp) hqy, if_true, List.length_cons]; omega
      · simp only [hqy, Bool.false_eq_true, if_false]
        split
        · simp only [List.length_cons]; omega
        · exact ih

theorem quiet_not_eff {o : Op} (h : quietKind o = true) : effKind o = false := by
  cases o <;> first | rfl | (simp only [quietKind, Bool.false_eq_true] at h)

set_option maxHeartbeats 2000000 in
theorem draw_ok {p : Pures} (hm : P.follows .mixedOrders = true) (hp : PureOk P p) {β : Base} {ops : Array Oper} (hsim : simpleRegion ops = true) {A : List AV} {h : H} {A' : List AV} {h' : H} (hr : arun P (pureS p) β ops ops.toList A h = some (A', h'))
    {a : Act} (s : SRel G h w) (hβ : ∀ γ ∈ G.bases, γ.1 ≤ β.nb) (r : ARel G A a) {id : Nat} {Q : Exit → Act → World → Prop} (hQ : ∀ G' a' w', Step G h w G' h' w' → SRel G' h' w' → ARel G' A' a' → Q .normal a' w') : (Code.region id ops true).wp P Q a w := by
  have sim := simple_of hsim
  have hS := (pureS_ok hp).b (nb := β.nb)
  obtain ⟨As, hs, vs, t1, t2, t3, t4, t5⟩ := arun_trace _ _ _ _ _ hr
  have tr : Trace P (pureS p) β ops A h A' h' As hs vs := ⟨t1, t2, by simpa using t3, by simpa using t4, fun i o ho => t5 i o (by simpa using ho)⟩
  obtain ⟨f, f1, f2, f3⟩ := first_eff ops ops.size (Nat.le_refl _)
  have size_of : ∀ {i : Nat} {o : Oper}, ops[i]? = some o → i < ops.size := fun ho => (Array.getElem?_eq_some_iff.1 ho).1
  -- what each kind does in the text's order
  have hquiet : ∀ j o, ops[j]? = some o → quietKind o.op = true → hs (j + 1) = hs j := fun j o ho hk => by
    rcases (tr.step j o ho).2 with ⟨_, h2⟩ | ⟨_, _, h2⟩
    · obtain ⟨g, hg, _⟩ := quiet_form (P := P) (p := p) (β := β) (A := As j) hk
      rw [hg, Option.map_eq_some_iff] at h2
      obtain ⟨_, _, h2⟩ := h2
      simp only [Prod.mk.injEq] at h2; exact h2.2.symm
    · exact h2
  have halloc : ∀ j o e, ops[j]? = some o → o.op = .alloc e → awant ops (As j) o = some true → ∃ z, zeroCs P e = some z ∧ vs j = .ptr (hs j).blk.length 0 ∧ hs (j + 1) = { hs j with blk := (hs j).blk ++ [z] } := fun j o e ho hk hw => by
    rcases (tr.step j o ho).2 with ⟨_, h2⟩ | ⟨h2, _⟩
    · simp only [aop, hk, Option.map_eq_some_iff] at h2
      obtain ⟨z, hz, h2⟩ := h2
      simp only [Prod.mk.injEq] at h2
      exact ⟨z, hz, h2.1.symm, h2.2.symm⟩
    · rw [hw] at h2; cases h2
  have before_f : ∀ i o, ops[i]? = some o → (readsH o.op = true ∨ allocKind o.op = true) → i < f := fun i o ho hk => by
    by_cases hf : f < ops.size
    · obtain ⟨o', ho', he⟩ := f3 hf
      exact (sim.read i f o o' ho ho' he hk).2
    · have := size_of ho; omega
  have hstay : ∀ j o, f ≤ j → ops[j]? = some o → effKind o.op = false → hs (j + 1) = hs j := fun j o hj ho he => by
    rcases sim.kind j o ho with hk | hk | hk
    · exact hquiet j o ho hk
    · have := before_f j o ho (.inr hk); omega
    · rw [he] at hk; cases hk
  have hstep : ∀ j, j < f → ∃ zs, hs (j + 1) = { hs j with blk := (hs j).blk ++ zs } := fun j hj => by
    have ho : ops[j]? = some ops[j] := by simp [show j < ops.size by omega]
    rcases sim.kind j _ ho with hk | hk | hk
    · exact ⟨[], by rw [hquiet j _ ho hk]; simp⟩
    · cases hop : ops[j].op <;> rw [hop] at hk <;> simp only [allocKind, Bool.false_eq_true] at hk
      rcases (tr.step j _ ho).2 with ⟨h1, _⟩ | ⟨_, _, h1⟩
      · obtain ⟨z, _, _, hz⟩ := halloc j _ _ ho hop h1
        exact ⟨[z], hz⟩
      · exact ⟨[], by rw [h1]; simp⟩
    · rw [f2 j _ hj ho] at hk; cases hk
  have hprefix : ∀ d k, k + d = f → ∃ zs, hs f = { hs k with blk := (hs k).blk ++ zs } := by
    intro d
    induction d with
    | zero => intro k hk; have : k = f := by omega
              subst this; exact ⟨[], by simp⟩
    | succ d ih =>
      intro k hk
      obtain ⟨zs, hz⟩ := ih (k + 1) (by omega)
      obtain ⟨ys, hy⟩ := hstep k (by omega)
      exact ⟨ys ++ zs, by rw [hz, hy]; simp⟩
  have hpre : ∀ k, k ≤ f → ∃ zs, hs f = { hs k with blk := (hs k).blk ++ zs } := fun k hk => hprefix (f - k) k (by omega)
  obtain ⟨zs0, hzs0⟩ := hpre 0 (Nat.zero_le _)
  rw [tr.h0] at hzs0
  have hlenf : ∀ k, k ≤ f → (hs k).blk.length ≤ (hs f).blk.length := fun k hk => by
    obtain ⟨zs, hz⟩ := hpre k hk
    rw [hz]; simp
  have hlen0 : ∀ d k, k + d ≤ f → (hs k).blk.length ≤ (hs (k + d)).blk.length := by
    intro d
    induction d with
    | zero => intro k _; exact Nat.le_refl _
    | succ d ih =>
      intro k hk
      obtain ⟨ys, hy⟩ := hstep (k + d) (by omega)
      have := ih k (by omega)
      rw [show k + (d + 1) = k + d + 1 by omega, hy]; simp; omega
  have hlens : ∀ j k, j ≤ k → k ≤ f → (hs j).blk.length ≤ (hs k).blk.length := fun j k hj hk => by
    have := hlen0 (k - j) j (by omega)
    rwa [show j + (k - j) = k by omega] at this
  -- the invariant
  let D : Array Bool → Nat → Bool := fun listed i => listed.getD i false
  have main : ∀ (fuel : Nat) (listed : Array Bool) (G1 : Ghost) (w1 : World) (a1 : Act), listed.size = ops.size → Closed ops (D listed) → SRel G1 (HD (hs f) ops hs (D listed) ops.size) w1 → Step G h w G1 (HD (hs f) ops hs (D listed) ops.size) w1 →
      ARel G1 (AD A ops vs (D listed) ops.size) a1 →
      (∀ j o, ops[j]? = some o → allocKind o.op = true → D listed j = false → awant ops (As j) o = some true → G1.φ (hs j).blk.length = none) → unlisted ops.size listed ≤ fuel → wpAny P .any ops Q fuel listed a1 w1 := by
    -- when all is done
    have done : ∀ (listed : Array Bool) (G1 : Ghost) (w1 : World) (a1 : Act), (∀ i, i < ops.size → D listed i = true) → SRel G1 (HD (hs f) ops hs (D listed) ops.size) w1 → Step G h w G1 (HD (hs f) ops hs (D listed) ops.size) w1 →
        ARel G1 (AD A ops vs (D listed) ops.size) a1 → Q .normal a1 w1 := fun listed G1 w1 a1 hall s1 st1 r1 => by
      have e1 : HD (hs f) ops hs (D listed) ops.size = h' := by
        rw [HD_same (E := fun j => decide (j < ops.size)) ops.size (fun j o hj _ _ => by simp [hall j hj, hj]), HD_text rfl f2 hstay (fun _ _ => trivial) ops.size f1 (Nat.le_refl _) (Nat.le_refl _), tr.hn]
      have e2 : AD A ops vs (D listed) ops.size = A' := by
        rw [← tr.an, show As ops.size = As (min ops.size ops.size) by simp, ← AD_text tr (Nat.le_refl _) ops.size (Nat.le_refl _)]
        apply List.ext_getElem?
        intro t
        exact AD_same ops.size (fun j hj _ => by simp [hall j hj, hj])
      rw [e1] at s1 st1
      rw [e2] at r1
      exact hQ G1 a1 w1 st1 s1 r1
    have ready_all : ∀ (listed : Array Bool), listed.size = ops.size → Region.ready .any ops listed = [] → ∀ i, i < ops.size → D listed i = true := fun listed hsz hnil i => by
      induction i using Nat.strongRecOn with
      | _ i ih =>
        intro hi
        cases hd : D listed i
        · have : i ∈ Region.ready .any ops listed := by
            rw [mem_ready]
            refine ⟨?_, ops[i], by simp [hi], fun e he hb => ?_⟩
            · have hi' : i < listed.size := by omega
              simp only [D, Array.getD_eq_getD_getElem?, Array.getElem?_eq_getElem hi', Option.getD_some] at hd ⊢
              exact hd
            · have := sim.edge i ops[i] (by simp [hi]) e he hb
              exact ih e.on this (by omega)
          rw [hnil] at this; cases this
        · rfl
    intro fuel
    induction fuel with
    | zero =>
      intro listed G1 w1 a1 hsz hcl s1 st1 r1 hpn hfu
      have hall : ∀ i, i < ops.size → D listed i = true := fun i hi => by
        have h0 : ((List.range ops.size).filter fun i => !listed.getD i false) = [] := List.eq_nil_of_length_eq_zero (by unfold unlisted at hfu; omega)
        have := List.filter_eq_nil_iff.1 h0 i (by simpa using hi)
        simpa [D] using this
      refine ⟨?_, done listed G1 w1 a1 hall s1 st1 r1⟩
      apply List.eq_nil_iff_forall_not_mem.2
      intro j hj
      rw [mem_ready] at hj
      obtain ⟨h0, o, ho, _⟩ := hj
      have hlt : j < listed.size := by have := size_of ho; omega
      have := hall j (size_of ho)
      simp only [D, Array.getD_eq_getD_getElem?, Array.getElem?_eq_getElem hlt, Option.getD_some] at h0 this
      rw [h0] at this; cases this
    | succ fuel ih =>
      intro listed G1 w1 a1 hsz hcl s1 st1 r1 hpn hfu
      refine ⟨fun hnil => done listed G1 w1 a1 (ready_all listed hsz hnil) s1 st1 r1, fun i hi => ?_⟩
      rw [mem_ready] at hi
      obtain ⟨h0, o, ho, hpre1⟩ := hi
      have hin := size_of ho
      have hlt : i < listed.size := by omega
      have hDi : D listed i = false := by
        simp only [Array.getD_eq_getD_getElem?, Array.getElem?_eq_getElem hlt, Option.getD_some] at h0
        simp only [D, Array.getD_eq_getD_getElem?, Array.getElem?_eq_getElem hlt, Option.getD_some]; exact h0
      have ancD : ∀ k, isAnc (Region.before ops) k i = true → D listed k = true := fun k hk => anc_closed hcl i i (Nat.le_refl _) k o ho hpre1 hk
      have notD : ∀ k ok, ops[k]? = some ok → isAnc (Region.before ops) i k = true → D listed k = false := fun k ok hok hk => by
        cases hd : D listed k
        · rfl
        · have := anc_in hcl hok hd hk
          rw [hDi] at this; cases this
      -- slots
      have hslot : ∀ t, t ∈ names ops o → ∀ j, j < ops.size → (ops[j]?).bind (·.dst) = some t → j ≠ i → D listed j = decide (j < i) := fun t ht j hj hdst hji => by
        have hoj : ops[j]? = some ops[j] := by simp [hj]
        rw [hoj] at hdst
        simp only [Option.bind_some] at hdst
        rcases Nat.lt_or_gt_of_ne hji with hlt' | hgt'
        · rw [ancD j (sim.slot j i _ o hoj ho hlt' (by simp [hazard, hdst, ht]))]; simp [hlt']
        · rw [notD j _ hoj (sim.slot i j o _ ho hoj hgt' (by simp [hazard, hdst, ht]))]; simp; omega
      have hread : ∀ t, t ∈ o.looksAt ops → (AD A ops vs (D listed) ops.size)[t]? = (As i)[t]? := fun t ht => by
        rw [AD_same (E := fun j => decide (j < i)) ops.size, AD_text tr (by omega) ops.size (Nat.le_refl _), show min ops.size i = i by omega]
        intro j hj hdst
        by_cases hji : j = i
        · subst hji; rw [hDi]; simp
        · exact hslot t (by simp [names, ht]) j hj hdst hji
      have hev : ∀ x ∈ o.op.operands, aev (AD A ops vs (D listed) ops.size) x = aev (As i) x := fun x hx => aev_of_slots (fun t ht => by
        subst ht
        refine hread t ?_
        simp only [Oper.looksAt, List.mem_append, List.mem_filterMap]
        exact .inl ⟨.tmp t, by simpa using hx, rfl⟩)
      have hwant : awant ops (AD A ops vs (D listed) ops.size) o = awant ops (As i) o := by
        unfold awant
        split
        · rfl
        · rename_i g want hg
          cases hd : (ops[g]?).bind (·.dst) with
          | none => rfl
          | some d =>
            simp only
            rw [hread d (by simp [Oper.looksAt, hg, hd])]
      -- the next state
      let listed' := listed.setIfInBounds i true
      have hD' : ∀ j, D listed' j = (decide (j = i) || D listed j) := fun j => by
        simp only [D, listed', Array.getD_eq_getD_getElem?, Array.getElem?_setIfInBounds]
        by_cases hji : i = j
        · subst hji; simp [hlt]
        · simp [hji, Ne.symm hji]
      have hsz' : listed'.size = ops.size := by simpa [listed'] using hsz
      have hcl' : Closed ops (D listed') := fun j oj hoj hj e he hb => by
        rw [hD'] at hj ⊢
        simp only [Bool.or_eq_true, decide_eq_true_eq] at hj ⊢
        rcases hj with rfl | hj
        · rw [ho] at hoj; cases hoj; exact .inr (hpre1 e he hb)
        · exact .inr (hcl j oj hoj hj e he hb)
      have hAs_len : (As i).length = A.length := by
        have := AD_text tr (i := i) (by omega) ops.size (Nat.le_refl _)
        rw [show min ops.size i = i by omega] at this
        rw [← this, AD_len]
      have hAD' : AD A ops vs (D listed') ops.size = putA (AD A ops vs (D listed) ops.size) o.dst (vs i) := by
        apply List.ext_getElem?
        intro t
        rw [putA_get, AD_len]
        by_cases hd : o.dst = some t
        · rw [AD_same (E := fun j => decide (j < i + 1)) ops.size, AD_text tr (i := i + 1) (by omega) ops.size (Nat.le_refl _), show min ops.size (i + 1) = i + 1 by omega, (tr.step i o ho).1, putA_get, hAs_len]
          · by_cases htl : t < A.length
            · simp [hd, htl]
            · simp only [htl, and_false, if_false]
              rw [List.getElem?_eq_none (by omega), List.getElem?_eq_none (by rw [AD_len]; omega)]
          · intro j hj hdst
            rw [hD']
            by_cases hji : j = i
            · subst hji; simp
            · rw [hslot t (by simp [names, hd]) j hj hdst hji]
              simp only [hji, decide_false, Bool.false_or]
              congr 1; simp only [eq_iff_iff]; omega
        · simp only [hd, false_and, if_false]
          refine AD_same ops.size (fun j hj hdst => ?_)
          rw [hD']
          have : j ≠ i := fun e => by subst e; rw [ho] at hdst; exact hd hdst
          simp [this]
      have hun : unlisted ops.size listed' ≤ fuel := by
        have : unlisted ops.size listed' < unlisted ops.size listed := by
          refine filter_lt (x := i) (by simpa using hin) ?_ ?_ ?_
          · have := hDi; simp only [D] at this; simp [this]
          · have := hD' i; simp only [D, decide_true, Bool.true_or] at this; simp [this]
          · intro y _ hy
            have := hD' y; simp only [D] at this
            rw [this] at hy
            simp only [Bool.not_or, Bool.and_eq_true] at hy
            exact hy.2
        omega
      -- heaps
      have hHD_not : effKind o.op = false → HD (hs f) ops hs (D listed') ops.size = HD (hs f) ops hs (D listed) ops.size := fun he => by
        refine HD_same ops.size (fun j oj hj hoj hje => ?_)
        rw [hD']
        have : j ≠ i := fun e => by subst e; rw [ho] at hoj; cases hoj; rw [he] at hje; cases hje
        simp [this]
      have hHD_tail : ∀ m k, m ≤ k → k ≤ ops.size → HD (hs f) ops hs (fun j => decide (j < m)) k = HD (hs f) ops hs (fun j => decide (j < m)) m := by
        intro m k
        induction k with
        | zero => intro h1 _; have : m = 0 := by omega
                  subst this; rfl
        | succ k ihk =>
          intro h1 h2
          by_cases hmk : m = k + 1
          · subst hmk; rfl
          · simp only [HD]
            rw [if_neg (by simp; omega), ihk (by omega) (by omega)]
      have hHD_eff : effKind o.op = true → HD (hs f) ops hs (D listed) ops.size = hs i ∧ HD (hs f) ops hs (D listed') ops.size = hs (i + 1) := fun he => by
        have hfi : f ≤ i := by
          rcases Nat.lt_or_ge i f with q | q
          · rw [f2 i o q ho] at he; cases he
          · exact q
        have hDk : ∀ j oj, j < ops.size → ops[j]? = some oj → effKind oj.op = true → j ≠ i → D listed j = decide (j < i) := fun j oj hj hoj hje hji => by
          rcases Nat.lt_or_gt_of_ne hji with q | q
          · rw [ancD j (sim.eff j i oj o hoj ho q hje he)]; simp [q]
          · rw [notD j oj hoj (sim.eff i j o oj ho hoj q he hje)]; simp; omega
        constructor
        · rw [HD_same (E := fun j => decide (j < i)) ops.size, hHD_tail i ops.size (by omega) (Nat.le_refl _), HD_text rfl f2 hstay (fun _ _ => trivial) i hfi (by omega) (Nat.le_refl _)]
          intro j oj hj hoj hje
          by_cases hji : j = i
          · subst hji; rw [hDi]; simp
          · exact hDk j oj hj hoj hje hji
        · rw [HD_same (E := fun j => decide (j < i + 1)) ops.size, hHD_tail (i + 1) ops.size (by omega) (Nat.le_refl _), HD_text rfl f2 hstay (fun _ _ => trivial) (i + 1) (by omega) (by omega) (Nat.le_refl _)]
          intro j oj hj hoj hje
          rw [hD']
          by_cases hji : j = i
          · subst hji; simp
          · rw [hDk j oj hj hoj hje hji]
            simp only [hji, decide_false, Bool.false_or]
            congr 1; simp only [eq_iff_iff]; omega
      have hHD_first : (readsH o.op = true ∨ allocKind o.op = true) → HD (hs f) ops hs (D listed) ops.size = hs f := fun hk => by
        refine HD_none ops.size (fun j oj hj hoj hje => ?_)
        exact notD j oj hoj (sim.read i j o oj ho hoj hje hk).1
      have hbases1 : ∀ γ ∈ G1.bases, γ.1 ≤ β.nb := by rw [st1.bases]; exact hβ
      have hpend : ∀ (G2 : Ghost) (w2 : World) (h2 : H), Step G1 (HD (hs f) ops hs (D listed) ops.size) w1 G2 h2 w2 → (∀ j oj, ops[j]? = some oj → allocKind oj.op = true → D listed' j = false → awant ops (As j) oj = some true → G2.φ (hs j).blk.length = none) := by
        intro G2 w2 h2 st2 j oj hoj hjk hj hjw
        rw [hD'] at hj
        simp only [Bool.or_eq_false_iff, decide_eq_false_iff_not] at hj
        have hn := hpn j oj hoj hjk hj.2 hjw
        cases hq : G2.φ (hs j).blk.length with
        | none => rfl
        | some c =>
          -- it lies below what the heap holds now, so it was known before
          have hjf := before_f j oj hoj (.inr hjk)
          have hnoeff : HD (hs f) ops hs (D listed) ops.size = hs f := HD_none ops.size (fun k ok hk hok hke => by
            cases hd : D listed k
            · rfl
            · have := anc_in hcl hok hd (sim.read j k oj ok hoj hok hke (.inr hjk)).1
              rw [hj.2] at this; cases this)
          have hlt2 : (hs j).blk.length < (hs f).blk.length := by
            cases hop : oj.op <;> rw [hop] at hjk <;> simp only [allocKind, Bool.false_eq_true] at hjk
            obtain ⟨z, _, _, hz⟩ := halloc j oj _ hoj hop hjw
            have := hlens (j + 1) f (by omega) (Nat.le_refl _)
            rw [hz] at this; simp at this; omega
          have := st2.pend.1 _ c hq (by rw [hnoeff]; exact hlt2)
          rw [hn] at this; cases this
      show wpOp P ops Q i (wpAny P .any ops Q fuel listed') a1 w1
      unfold wpOp
      simp only [ho]
      rcases (tr.step i o ho).2 with ⟨hw, hop⟩ | ⟨hw, hv, hsame⟩
      · rw [awant_ok r1 (hwant.trans hw), if_pos rfl]
        left
        rcases sim.kind i o ho with hk | hk | hk
        · -- quiet
          have hneff : effKind o.op = false := quiet_not_eff hk
          have haop : aop P (pureS p) β o (AD A ops vs (D listed) ops.size) (HD (hs f) ops hs (D listed) ops.size) = some (vs i, HD (hs f) ops hs (D listed) ops.size) := by
            rw [aop_congr hev]
            obtain ⟨g, hg1, hg2, hg3⟩ := quiet_form (P := P) (p := p) (β := β) (A := As i) hk
            rw [hg1, Option.map_eq_some_iff] at hop
            obtain ⟨v, hv1, hv2⟩ := hop
            simp only [Prod.mk.injEq] at hv2
            rw [hg1]
            cases hrd : readsH o.op
            · rw [hg2 hrd _ (hs i), hv1, hv2.1]; rfl
            · rw [hHD_first (.inl hrd)]
              obtain ⟨zs, hz⟩ := hpre i (by have := before_f i o ho (.inl hrd); omega)
              rw [hz, hg3 _ zs v hv1, hv2.1]; rfl
          refine aop_ok hS s1 hbases1 r1 haop (fun G2 w2 u st2 s2 hrel => ?_)
          refine ih listed' G2 w2 _ hsz' hcl' ?_ ?_ ?_ (hpend G2 w2 _ st2) hun
          · rw [hHD_not hneff]; exact s2
          · rw [hHD_not hneff]; exact st1.trans st2
          · rw [hAD']; exact put_rel (r1.mono st2.le) hrel o.dst
        · -- alloc
          cases hoo : o.op <;> rw [hoo] at hk <;> simp only [allocKind, Bool.false_eq_true] at hk
          rename_i e
          have hneff : effKind o.op = false := by rw [hoo]; rfl
          obtain ⟨z, hz, hvi, hsi⟩ := halloc i o e ho hoo hw
          have hif := before_f i o ho (.inr (by rw [hoo]; rfl))
          have hHf := hHD_first (.inr (by rw [hoo]; rfl))
          obtain ⟨inf, zv, hinf, hzv, hrun, hrel⟩ := run_zero (w := w1) hz
          have hblk : (hs f).blk[(hs i).blk.length]? = some z := by
            obtain ⟨zs, hzs⟩ := hpre (i + 1) (by omega)
            rw [hzs, hsi]; simp
          have hn := hpn i o ho (by rw [hoo]; rfl) hDi hw
          rw [hHf] at s1 st1
          have hbl : ∀ γ ∈ G1.bases, γ.1 ≤ (hs i).blk.length := fun γ hγ => by
            rw [st1.bases] at hγ
            have h1 := (s.bases γ hγ).1
            have h2 := hlens 0 i (Nat.zero_le _) (by omega)
            rw [tr.h0] at h2; omega
          obtain ⟨G2, hle2, s2, hφ2, hφo, hst⟩ := s1.allocPend hblk hn hbl e (hrel G1)
          have st2 := hst G h w st1 (by have := hlens 0 i (Nat.zero_le _) (by omega); rw [tr.h0] at this; exact this)
          have hex : (execOp a1.eval o).run P w1 = .ok (.value (.pointer (some ⟨w1.heap.size, 0, none⟩))) (w1.alloc (.cells zv.cells e)) := by
            simp [execOp, hoo, Instr.alloc, hrun, newVar, newRow]
          unfold Oper.wp
          rw [hex]
          refine ih listed' G2 _ _ hsz' hcl' ?_ ?_ ?_ ?_ hun
          · rw [hHD_not hneff, hHf]; exact s2
          · rw [hHD_not hneff, hHf]; exact st2
          · rw [hAD', hvi]; exact put_rel (r1.mono hle2) (by simp only [VRel]; exact ⟨_, hφ2, rfl⟩) o.dst
          · intro j oj hoj hjk hj hjw
            rw [hD'] at hj
            simp only [Bool.or_eq_false_iff, decide_eq_false_iff_not] at hj
            rw [hφo]
            · exact hpn j oj hoj hjk hj.2 hjw
            · have hjf := before_f j oj hoj (.inr hjk)
              cases hop2 : oj.op <;> rw [hop2] at hjk <;> simp only [allocKind, Bool.false_eq_true] at hjk
              obtain ⟨z2, _, _, hz2⟩ := halloc j oj _ hoj hop2 hjw
              rcases Nat.lt_or_gt_of_ne hj.1 with q | q
              · have := hlens (j + 1) i (by omega) (by omega)
                rw [hz2] at this; simp at this; omega
              · have := hlens (i + 1) j (by omega) (by omega)
                rw [hsi] at this; simp at this; omega
        · -- an effect
          obtain ⟨e1, e2⟩ := hHD_eff hk
          rw [e1] at s1 st1
          refine aop_ok hS s1 hbases1 r1 (by rw [aop_congr hev]; exact hop) (fun G2 w2 u st2 s2 hrel => ?_)
          refine ih listed' G2 w2 _ hsz' hcl' ?_ ?_ ?_ (hpend G2 w2 _ (by rw [e1]; exact st2)) hun
          · rw [e2]; exact s2
          · rw [e2]; exact st1.trans st2
          · rw [hAD']; exact put_rel (r1.mono st2.le) hrel o.dst
      · -- not wanted
        rw [awant_ok r1 (hwant.trans hw)]
        simp only [Bool.false_eq_true, if_false]
        have hsameHD : HD (hs f) ops hs (D listed') ops.size = HD (hs f) ops hs (D listed) ops.size := by
          by_cases he : effKind o.op = true
          · obtain ⟨e1, e2⟩ := hHD_eff he
            rw [e1, e2, hsame]
          · exact hHD_not (by simpa using he)
        refine ih listed' G1 w1 _ hsz' hcl' ?_ ?_ ?_ (hpend G1 w1 _ (.refl _ _ _)) hun
        · rw [hsameHD]; exact s1
        · rw [hsameHD]; exact st1
        · rw [hAD', hv]; exact put_rel r1 (undef_rel G1) o.dst
  refine wp_region_any hm ?_
  have hD0 : ∀ j, D (Array.replicate ops.size false) j = false := fun j => by
    simp only [D, Array.getD_eq_getD_getElem?]
    by_cases hj : j < ops.size
    · simp [hj]
    · simp [hj]
  have hHD0 : HD (hs f) ops hs (D (Array.replicate ops.size false)) ops.size = hs f := HD_none _ (fun j o _ _ _ => hD0 j)
  have hAD0 : ∀ k, AD A ops vs (D (Array.replicate ops.size false)) k = A := fun k => by
    induction k with
    | zero => rfl
    | succ k ihk => simp only [AD, hD0, Bool.false_eq_true, if_false, ihk]
  have s0 : SRel G (hs f) { w with drawn := w.drawn + 1 } := by rw [hzs0]; exact (s.pendBlocks zs0).drawn _
  have st0 : Step G h w G (hs f) { w with drawn := w.drawn + 1 } := by
    rw [hzs0]
    exact ⟨.refl G, rfl, rfl, rfl, Nat.le_refl _, fun _ _ _ => rfl, fun _ ho => .inl (ho.imp (fun ⟨b, sb, q1, q2⟩ => ⟨b, sb, q1, fun q => q2 (by rw [List.getElem?_append_left (s.dom.φ _ _ q1)]; exact q)⟩) fun q => q), rfl, ⟨fun _ _ h _ => h, by simp⟩, fun _ _ _ h => .inl h⟩
  refine main ops.size _ G _ a (by simp) (fun j o _ hj => by rw [hD0] at hj; cases hj) (by rw [hHD0]; exact s0) (by rw [hHD0]; exact st0) (by rw [hAD0]; exact r) ?_ ?_
  · intro j o hoj hk _ hw
    cases hq : G.φ (hs j).blk.length with
    | none => rfl
    | some c =>
      have h1 := s.dom.φ _ c hq
      have h2 := hlens 0 j (Nat.zero_le _) (by have := before_f j o hoj (.inr hk); omega)
      rw [tr.h0] at h2; omega
  · unfold unlisted
    have := List.length_filter_le (fun i => !(Array.replicate ops.size false).getD i false) (List.range ops.size)
    simpa using this
end
end Go.VM
end
section
/- Calls out of nothing: what holds in an empty heap holds in every one. -/
namespace Go.VM
set_option linter.unusedSectionVars false
variable [Inhabited Globs]

def H.nil : H := ⟨[], [], []⟩

def Room.shift (dt : Nat) : Room → Room
  | .tok t z => .tok (t + dt) z
  | r => r
mutual
def AV.shift (dt dm : Nat) : AV → AV
  | .agg cs => .agg (AV.shifts dt dm cs)
  | .tup cs => .tup (AV.shifts dt dm cs)
  | .cptr cs => .cptr (AV.shifts dt dm cs)
  | .sl cs n r => .sl (AV.shifts dt dm cs) n (r.shift dt)
  | .map m => .map (m + dm)
  | .fn f a b => .fn f (AV.shifts dt dm a) (AV.shifts dt dm b)
  | v => v
def AV.shifts (dt dm : Nat) : List AV → List AV
  | [] => []
  | a :: as => AV.shift dt dm a :: AV.shifts dt dm as
end

section
variable {P : Program} {G : Ghost} {w : World}

structure Ghost.Moved (dt dm : Nat) (G G' : Ghost) : Prop where
  φ : ∀ b, G.φ b = none
  fr : ∀ c o v, G.fr c o = some v → G'.fr c o = some v
  tk : ∀ t n x, G.tk t n = some x → G'.tk (t + dt) n = some x
  mp : ∀ m c, G.mp m = some c → G'.mp (m + dm) = some c

theorem RoomOk.moved {G G' : Ghost} {dt dm : Nat} (h : G.Moved dt dm G') {r : Room} {c o n cap : Nat} (hr : RoomOk G r c o n cap) : RoomOk G' (r.shift dt) c o n cap := by
  cases r <;> simp only [RoomOk, Room.shift] at *
  · exact hr
  · exact ⟨hr.1, h.tk _ _ _ hr.2⟩

mutual
theorem VRel.moved {G G' : Ghost} {dt dm : Nat} (h : G.Moved dt dm G') : ∀ (a : AV) (v : Value), VRel G a v → VRel G' (a.shift dt dm) v
  | .bool _, _, hv | .int _ _, _, hv | .str _, _, hv | .nilP, _, hv | .nilM, _, hv | .nilF, _, hv | .nilI, _, hv | .top, _, hv => by first | (simp only [AV.shift, VRel]; done) | (simp only [AV.shift, VRel] at hv ⊢; exact hv)
  | .agg cs, v, hv => by
    simp only [VRel, AV.shift] at *
    obtain ⟨vs, e, hs⟩ := hv; exact ⟨vs, e, VRels.moved h cs _ hs⟩
  | .tup cs, v, hv => by
    simp only [VRel, AV.shift] at *
    obtain ⟨vs, e, hs⟩ := hv; exact ⟨vs, e, VRels.moved h cs _ hs⟩
  | .ptr b o, v, hv => by
    simp only [VRel] at hv
    obtain ⟨c, e, _⟩ := hv; rw [h.φ] at e; cases e
  | .cptr cs, v, hv => by
    simp only [VRel, AV.shift] at *
    obtain ⟨c, o, vs, e, hs, hf⟩ := hv; exact ⟨c, o, vs, e, VRels.moved h cs _ hs, fun i u hu => h.fr _ _ _ (hf i u hu)⟩
  | .sl cs n r, v, hv => by
    simp only [VRel, AV.shift] at *
    rcases hv with (⟨rfl, rfl, h1, h2⟩ | ⟨rfl, rfl, h1, a, h2⟩) | ⟨c, o, cap, vs, e, h1, h2, h3, hs, hf⟩
    · exact .inl (.inl ⟨rfl, rfl, h1, h2⟩)
    · exact .inl (.inr ⟨rfl, rfl, h1, a, h2⟩)
    · exact .inr ⟨c, o, cap, vs, e, h1, h2, h3.moved h, VRels.moved h cs _ hs, fun i u hu => h.fr _ _ _ (hf i u hu)⟩
  | .msl b o n cap z, v, hv => by
    simp only [VRel] at hv
    obtain ⟨c, e, _⟩ := hv; rw [h.φ] at e; cases e
  | .map m, v, hv => by
    simp only [VRel, AV.shift] at *
    obtain ⟨c, e, hs⟩ := hv; exact ⟨c, h.mp _ _ e, hs⟩
  | .fn f a b, v, hv => by
    simp only [VRel, AV.shift] at *
    obtain ⟨fs, cs, e, h1, h2⟩ := hv; exact ⟨fs, cs, e, VRels.moved h a _ h1, VRels.moved h b _ h2⟩
theorem VRels.moved {G G' : Ghost} {dt dm : Nat} (h : G.Moved dt dm G') : ∀ (as : List AV) (vs : List Value), VRels G as vs → VRels G' (AV.shifts dt dm as) vs
  | [], _, hv => by simpa only [AV.shifts, VRels] using hv
  | a :: as, vs, hv => by
    simp only [VRels, AV.shifts] at *
    obtain ⟨v, vs', e, h1, h2⟩ := hv; exact ⟨v, vs', e, VRel.moved h a v h1, VRels.moved h as vs' h2⟩
end

mutual
theorem AV.shift_pure {dt dm : Nat} : ∀ a : AV, a.bnd 0 0 0 = true → a.shift dt dm = a
  | .bool _, _ | .int _ _, _ | .str _, _ | .nilP, _ | .nilM, _ | .nilF, _ | .nilI, _ | .top, _ => by simp only [AV.shift]
  | .agg cs, h | .tup cs, h | .cptr cs, h => by simp only [AV.bnd] at h; simp only [AV.shift, AV.shifts_pure cs h]
  | .ptr b o, h => by simp [AV.bnd] at h
  | .msl b _ _ _ _, h => by simp [AV.bnd] at h
  | .map m, h => by simp [AV.bnd] at h
  | .sl cs n r, h => by
    simp only [AV.bnd, Bool.and_eq_true] at h
    simp only [AV.shift, AV.shifts_pure cs h.2]
    have := h.1
    cases r <;> simp [Room.bnd, Room.shift] at this ⊢
  | .fn f a b, h => by simp only [AV.bnd, Bool.and_eq_true] at h; simp only [AV.shift, AV.shifts_pure a h.1, AV.shifts_pure b h.2]
theorem AV.shifts_pure {dt dm : Nat} : ∀ as : List AV, AV.bnds 0 0 0 as = true → AV.shifts dt dm as = as
  | [], _ => by simp only [AV.shifts]
  | a :: as, h => by simp only [AV.bnds, Bool.and_eq_true] at h; simp only [AV.shifts, AV.shift_pure a h.1, AV.shifts_pure as h.2]
end

theorem frame_callB {nb : Nat} {f : FuncId} {args : List AV} {v : AV} {ts : List Nat} {ms : List (List (AV × AV))} (hc : CallOkB P nb f args .nil v ⟨[], ts, ms⟩) (ha : AV.bnds 0 0 0 args = true) (h : H) :
    CallOk P f args h (v.shift h.toks.length h.maps.length) ⟨h.blk, h.toks ++ ts, h.maps ++ ms⟩ := by
  intro G w vs s hgl hr
  let G0 : Ghost := ⟨fun _ => none, G.fr, fun _ _ => none, fun _ => none, []⟩
  have hle0 : G.LeBelow 0 0 0 G0 := ⟨fun b c hb => absurd hb (Nat.not_lt_zero _), fun _ _ _ h => h, fun t n x ht => absurd ht (Nat.not_lt_zero _), fun m c hm => absurd hm (Nat.not_lt_zero _)⟩
  have s0 : SRel G0 .nil w := by
    constructor
    case dom => exact ⟨(by intro _ _ h; cases h), (by intro _ _ _ h; cases h), (by intro _ _ h; cases h)⟩
    case fr => exact s.fr
    case blk => intro _ _ h; cases h
    case tok => intro t n ht; simp [H.nil] at ht
    case map => intro _ _ h; cases h
    case injφ => intro _ _ _ _ h; cases h
    case φfr => intro _ _ _ h; cases h
    case φtk => intro _ _ _ _ _ _ h; cases h
    case tkle => intro _ _ _ h; cases h
    case injtk => intro t t' n n' c cap sz cap' sz' ht; simp [H.nil] at ht
    case injmp => intro _ _ _ h; cases h
    case bases => intro _ h; cases h
  have hown0 : ∀ c, ¬ Own G0 .nil c := fun c ho => by
    rcases ho with ⟨b, sb, hb, _⟩ | ⟨t, n, cap, sz, ht, _⟩ | ⟨m, hm⟩
    · cases hb
    · simp [H.nil] at ht
    · cases hm
  refine (hc G0 w vs s0 (fun γ hγ => by cases hγ) hgl (VRels.below hle0 _ _ ha hr)).mono ?_
  rintro e w' ⟨G1, u, rfl, st, s1, hv⟩
  have hφ1 : ∀ b, G1.φ b = none := fun b => by
    cases hb : G1.φ b with
    | none => rfl
    | some c => exact absurd (s1.dom.φ b c hb) (Nat.not_lt_zero _)
  have hsame : ∀ c, c < w.heap.size → w'.heap[c]? = w.heap[c]? := fun c hc => st.keep c hc (hown0 c)
  have hnew : ∀ c, Own G1 ⟨[], ts, ms⟩ c → w.heap.size ≤ c := fun c ho => (st.own c ho).resolve_left (hown0 c)
  have hfr : ∀ c o x, G1.fr c o = some x → G.fr c o = some x ∨ w.heap.size ≤ c := fun c o x hx => by
    rcases st.frnew c o x hx with q | q | q
    · exact .inl q
    · exact .inr q
    · exact absurd q (hown0 c)
  let G2 : Ghost := ⟨G.φ, G1.fr, fun t n => if t < h.toks.length then G.tk t n else G1.tk (t - h.toks.length) n, fun m => if m < h.maps.length then G.mp m else G1.mp (m - h.maps.length), G.bases⟩
  have hle : G.Le G2 := by
    refine ⟨fun _ _ h => h, fun c o x hx => st.le.fr c o x hx, fun t n x hx => ?_, fun m c hm => ?_⟩
    · simp only [G2, if_pos (s.dom.tk t n x hx)]; exact hx
    · simp only [G2, if_pos (s.dom.mp m c hm)]; exact hm
  have hmoved : G1.Moved h.toks.length h.maps.length G2 := by
    refine ⟨hφ1, fun _ _ _ h => h, fun t n x hx => ?_, fun m c hm => ?_⟩
    · simp only [G2]; rw [if_neg (by omega), Nat.add_sub_cancel]; exact hx
    · simp only [G2]; rw [if_neg (by omega), Nat.add_sub_cancel]; exact hm
  have hle1 : G1.LeBelow 0 0 0 G2 := ⟨fun b c hb => absurd hb (Nat.not_lt_zero _), fun _ _ _ h => h, fun t n x ht => absurd ht (Nat.not_lt_zero _), fun m c hm => absurd hm (Nat.not_lt_zero _)⟩
  have htk : ∀ t n x, G2.tk t n = some x → (t < h.toks.length ∧ G.tk t n = some x) ∨ (h.toks.length ≤ t ∧ G1.tk (t - h.toks.length) n = some x) := fun t n x hx => by
    by_cases ht : t < h.toks.length
    · simp only [G2, if_pos ht] at hx; exact .inl ⟨ht, hx⟩
    · simp only [G2, if_neg ht] at hx; exact .inr ⟨by omega, hx⟩
  have hmp : ∀ m c, G2.mp m = some c → (m < h.maps.length ∧ G.mp m = some c) ∨ (h.maps.length ≤ m ∧ G1.mp (m - h.maps.length) = some c) := fun m c hx => by
    by_cases ht : m < h.maps.length
    · simp only [G2, if_pos ht] at hx; exact .inl ⟨ht, hx⟩
    · simp only [G2, if_neg ht] at hx; exact .inr ⟨by omega, hx⟩
  have htoks : ∀ t n, (h.toks ++ ts)[t]? = some n → (t < h.toks.length ∧ h.toks[t]? = some n) ∨ (h.toks.length ≤ t ∧ ts[t - h.toks.length]? = some n) := fun t n hx => by
    by_cases ht : t < h.toks.length
    · rw [List.getElem?_append_left ht] at hx; exact .inl ⟨ht, hx⟩
    · rw [List.getElem?_append_right (by omega)] at hx; exact .inr ⟨by omega, hx⟩
  have tok_old : ∀ t n c cap sz, h.toks[t]? = some n → G.tk t n = some (c, cap, sz) → c < w.heap.size := fun t n c cap sz h1 h2 => s.own_lt (.inr (.inl ⟨t, n, cap, sz, h1, h2⟩))
  have tok_new : ∀ t n c cap sz, ts[t]? = some n → G1.tk t n = some (c, cap, sz) → w.heap.size ≤ c := fun t n c cap sz h1 h2 => hnew c (.inr (.inl ⟨t, n, cap, sz, h1, h2⟩))
  refine ⟨G2, u, rfl, ?_, ?_, VRel.moved hmoved _ _ hv⟩
  · refine ⟨hle, st.os, st.tape, st.output, st.size, fun c hc _ => hsame c hc, fun c ho => ?_, rfl, ⟨fun _ _ h _ => h, Nat.le_refl _⟩, fun c o x hx => (hfr c o x hx).imp id .inl⟩
    rcases ho with ⟨b, sb, hb⟩ | ⟨t, n, cap, sz, ht, hk⟩ | ⟨m, hm⟩
    · exact .inl (.inl ⟨b, sb, hb⟩)
    · rcases htoks t n ht with ⟨g1, g2⟩ | ⟨g1, g2⟩ <;> rcases htk t n _ hk with ⟨k1, k2⟩ | ⟨k1, k2⟩
      · exact .inl (.inr (.inl ⟨t, n, cap, sz, g2, k2⟩))
      · omega
      · omega
      · exact .inr (tok_new _ n c cap sz g2 k2)
    · rcases hmp m c hm with ⟨_, k2⟩ | ⟨_, k2⟩
      · exact .inl (.inr (.inr ⟨m, k2⟩))
      · exact .inr (hnew c (.inr (.inr ⟨_, k2⟩)))
  · refine ⟨⟨s.dom.φ, fun t n x hx => ?_, fun m c hm => ?_⟩, fun b c hb => ?_, fun t n ht => ?_, fun m c hm => ?_, s1.fr, s.injφ, fun b c o hb hl => ?_, fun b c t n cap sz hb ht hk => ?_, fun t n x hx cur hcur => ?_, fun t t' n n' c cap sz cap' sz' h1 h2 h3 h4 => ?_, fun m m' c h1 h2 => ?_, fun β hβ => ?_⟩
    · simp only [List.length_append]
      rcases htk t n x hx with ⟨k1, _⟩ | ⟨k1, k2⟩
      · omega
      · have := s1.dom.tk _ n x k2; simp only at this; omega
    · simp only [List.length_append]
      rcases hmp m c hm with ⟨k1, _⟩ | ⟨k1, k2⟩
      · omega
      · have := s1.dom.mp _ c k2; simp only at this; omega
    · obtain ⟨cs, arr, e, h1, h2, h2', h3⟩ := s.blk b c hb
      exact ⟨cs, arr, e, h1, by rw [hsame c.1 (lt_of_get h2)]; exact h2, h2', VRels.mono hle _ _ h3⟩
    · rcases htoks t n ht with ⟨g1, g2⟩ | ⟨g1, g2⟩
      · obtain ⟨c, cap, size, cur, e, k1, k2, k3, k4, k5, k6⟩ := s.tok t n g2
        refine ⟨c, cap, size, cur, e, hle.tk _ _ _ k1, by rw [hsame c (lt_of_get k2)]; exact k2, k3, k4, k5, fun o x hx => ?_⟩
        rcases hfr c o x hx with q | q
        · exact k6 o x q
        · have := lt_of_get k2; omega
      · obtain ⟨c, cap, size, cur, e, k1, k2, k3⟩ := s1.tok _ n g2
        refine ⟨c, cap, size, cur, e, ?_, k2, k3⟩
        simp only [G2]; rw [if_neg (by omega)]; exact k1
    · rcases hmp m c hm with ⟨k1, k2⟩ | ⟨k1, k2⟩
      · obtain ⟨M, es, ck, q1, q2, q3⟩ := s.map m c k2
        exact ⟨M, es, ck, by simp only; rw [List.getElem?_append_left k1]; exact q1, by rw [hsame c (lt_of_get q2)]; exact q2, q3.mono hle⟩
      · obtain ⟨M, es, ck, q1, q2, hMok, M', q3, q4, q5, q6⟩ := s1.map _ c k2
        refine ⟨M, es, ck, by simp only; rw [List.getElem?_append_right k1]; exact q1, q2, hMok, M', q3, q4, fun i kv e g1 g2 => ?_, q6⟩
        have hin := hMok.2 kv (q3.mem_iff.1 (List.mem_of_getElem? g1))
        obtain ⟨r1, r2⟩ := q5 i kv e g1 g2
        exact ⟨VRel.below hle1 _ _ (key_bnd hin.1) r1, VRel.below hle1 _ _ hin.2 r2⟩
    · cases hq : G2.fr c.1 o with
      | none => rfl
      | some x =>
        rcases hfr c.1 o x hq with q | q
        · rw [s.φfr b c o hb hl] at q; cases q
        · have := s.φ_lt hb; omega
    · rcases htoks t n ht with ⟨g1, g2⟩ | ⟨g1, g2⟩ <;> rcases htk t n _ hk with ⟨k1, k2⟩ | ⟨k1, k2⟩
      · exact s.φtk b c t n cap sz hb g2 k2
      · omega
      · omega
      · have h1 := tok_new _ n c.1 cap sz g2 k2
        have h2 := s.φ_lt hb
        omega
    · rcases htoks t cur hcur with ⟨g1, g2⟩ | ⟨g1, g2⟩ <;> rcases htk t n _ hx with ⟨k1, k2⟩ | ⟨k1, k2⟩
      · exact s.tkle t n x k2 cur g2
      · omega
      · omega
      · exact s1.tkle _ n x k2 cur g2
    · rcases htoks t n h1 with ⟨g1, g2⟩ | ⟨g1, g2⟩ <;> rcases htk t n _ h3 with ⟨k1, k2⟩ | ⟨k1, k2⟩ <;> rcases htoks t' n' h2 with ⟨g1', g2'⟩ | ⟨g1', g2'⟩ <;> rcases htk t' n' _ h4 with ⟨k1', k2'⟩ | ⟨k1', k2'⟩ <;> first
        | omega
        | exact s.injtk t t' n n' c cap sz cap' sz' g2 g2' k2 k2'
        | (have a1 := tok_old _ _ _ _ _ g2 k2; have a2 := tok_new _ _ _ _ _ g2' k2'; omega)
        | (have a1 := tok_new _ _ _ _ _ g2 k2; have a2 := tok_old _ _ _ _ _ g2' k2'; omega)
        | (have := s1.injtk _ _ n n' c cap sz cap' sz' g2 g2' k2 k2'; omega)
    · rcases hmp m c h1 with ⟨k1, k2⟩ | ⟨k1, k2⟩ <;> rcases hmp m' c h2 with ⟨k1', k2'⟩ | ⟨k1', k2'⟩
      · exact s.injmp m m' c k2 k2'
      · have a1 := s.own_lt (.inr (.inr ⟨_, k2⟩)); have a2 := hnew c (.inr (.inr ⟨_, k2'⟩)); omega
      · have a1 := s.own_lt (.inr (.inr ⟨_, k2'⟩)); have a2 := hnew c (.inr (.inr ⟨_, k2⟩)); omega
      · have := s1.injmp _ _ c k2 k2'; omega
    · obtain ⟨b1, b2, b3, b4⟩ := s.bases β hβ
      exact ⟨b1, by simp; omega, by simp; omega, b4⟩

theorem pure_callB {nb : Nat} {f : FuncId} {args : List AV} {v : AV} (hc : CallOkB P nb f args .nil v .nil) (ha : AV.bnds 0 0 0 args = true) (hv : v.bnd 0 0 0 = true) (h : H) : CallOk P f args h v h := by
  have := frame_callB (ts := []) (ms := []) hc ha h
  rw [AV.shift_pure v hv] at this
  simpa using this
theorem pure_call {f : FuncId} {args : List AV} {v : AV} (hc : CallOk P f args .nil v .nil) (ha : AV.bnds 0 0 0 args = true) (hv : v.bnd 0 0 0 = true) (h : H) : CallOk P f args h v h := pure_callB (hc.b 0) ha hv h
end
end Go.VM
end
section
/- The reader in use. -/
namespace Go.VM
set_option linter.unusedSectionVars false
variable [Inhabited Globs]

def Darun (P : Program) (p : Pures) : Base → Draws := fun β ops A h => arun P (pureS p) β ops ops.toList A h
def Dsafe (P : Program) (p : Pures) : Base → Draws := fun β ops A h => if simpleRegion ops then arun P (pureS p) β ops ops.toList A h else none

def allSimple : Code → Bool
  | .region _ ops true => simpleRegion ops
  | .seq a b => allSimple a && allSimple b
  | .cond _ a b => allSimple a && allSimple b
  | .block _ c => allSimple c
  | .loop c => allSimple c
  | .scope c => allSimple c
  | _ => true

section
variable {P : Program}

theorem dsafe_ok {p : Pures} (hm : P.follows .mixedOrders = true) (hp : PureOk P p) : DrawsOk P (Dsafe P p) := by
  intro β ops A h A' h' he G w a s hβ r id Q hQ
  simp only [Dsafe] at he
  split at he
  · rename_i hs
    exact draw_ok hm hp hs he s hβ r hQ
  · cases he

theorem exec_simple {S : Summ} {p : Pures} {β : Base} {n : Nat} : ∀ (c : Code), allSimple c = true → ∀ A h, exec P S (Darun P p) β n c A h = exec P S (Dsafe P p) β n c A h := by
  intro c
  induction c with
  | region id ops draw =>
    intro hc A h
    cases draw
    · rfl
    · simp only [allSimple] at hc
      simp only [exec, Darun, Dsafe, hc, if_true]
  | seq x y ihx ihy =>
    intro hc A h
    simp only [allSimple, Bool.and_eq_true] at hc
    simp only [exec, ihx hc.1]
    cases exec P S (Dsafe P p) β n x A h with
    | none => rfl
    | some r =>
      obtain ⟨e, A', h'⟩ := r
      cases e <;> simp only [ihy hc.2]
  | cond c x y ihx ihy =>
    intro hc A h
    simp only [allSimple, Bool.and_eq_true] at hc
    simp only [exec, ihx hc.1, ihy hc.2]
  | block id c ih =>
    intro hc A h
    simp only [allSimple] at hc
    simp only [exec, ih hc]
  | loop c ih =>
    intro hc A h
    simp only [allSimple] at hc
    simp only [exec]
    have : exec P S (Darun P p) β n c = exec P S (Dsafe P p) β n c := funext fun A => funext fun h => ih hc A h
    rw [this]
  | scope c ih =>
    intro hc A h
    simp only [allSimple] at hc
    simp only [exec, ih hc]
  | _ => intros; rfl

/-- the body of a function, read -/
def ebody (P : Program) (p : Pures) (S : Summ) (n : Nat) (fn : Func) (c : Code) (args : List AV) (h : H) : Option (AV × H) :=
  match exec P S (Darun P p) h.base n c (args ++ List.replicate (fn.ntmps - args.length) .undef) h with
  | some (.exit _, _, _) => none
  | some (_, A, h1) =>
    match resvs P h1 A fn.results.toList with
    | some vs => some (leave h.base (oneOrTup vs) h1)
    | none => none
  | none => none

theorem ebody_ok {p : Pures} {S : Summ} (hm : P.follows .mixedOrders = true) (hp : PureOk P p) (hS : SummOk P S) {f : FuncId} {fn : Func} (hf : P.funcs[f]? = some fn) {c : Code} (hb : fn.body = some c) (hs : allSimple c = true)
    {n : Nat} {args : List AV} {h : H} {v : AV} {h' : H} (he : ebody P p S n fn c args h = some (v, h')) : CallOk P f args h v h' := by
  refine acall_ok hS (dsafe_ok hm hp) (n := n) ?_
  unfold acall
  simp only [hf, hb]
  unfold ebody at he
  rw [exec_simple c hs] at he
  exact he
end
end Go.VM
end
section
/- Regions with few orders, tried one by one; whole trees of calls. -/
namespace Go.VM
set_option linter.unusedSectionVars false
variable [Inhabited Globs]

mutual
def AV.beq : AV → AV → Bool
  | .bool a, .bool b => a == b
  | .int j a, .int k b => j == k && a == b
  | .str a, .str b => a.toList == b.toList
  | .nilP, .nilP | .nilM, .nilM | .nilF, .nilF | .nilI, .nilI | .top, .top => true
  | .agg a, .agg b | .tup a, .tup b | .cptr a, .cptr b => AV.beqs a b
  | .ptr a b, .ptr c d => a == c && b == d
  | .sl a n r, .sl b m s => AV.beqs a b && n == m && r == s
  | .msl a b c d e, .msl a' b' c' d' e' => a == a' && b == b' && c == c' && d == d' && e == e'
  | .map a, .map b => a == b
  | .fn f a b, .fn g c d => f == g && AV.beqs a c && AV.beqs b d
  | _, _ => false
def AV.beqs : List AV → List AV → Bool
  | [], [] => true
  | a :: as, b :: bs => AV.beq a b && AV.beqs as bs
  | _, _ => false
end

theorem ba_list {a b : ByteArray} (h : a.toList = b.toList) : a = b := (ba_beq a b).1 (by rw [beq_toListBytes]; simp [h])

mutual
theorem AV.beq_eq : ∀ a b : AV, AV.beq a b = true → a = b
  | .bool _, b, h => by cases b <;> simp [AV.beq] at h; simp [h]
  | .int _ _, b, h => by cases b <;> simp [AV.beq] at h; simp [h]
  | .str _, b, h => by cases b <;> simp [AV.beq] at h; rw [ba_list h]
  | .nilP, b, h => by cases b <;> simp [AV.beq] at h; rfl
  | .nilM, b, h => by cases b <;> simp [AV.beq] at h; rfl
  | .nilF, b, h => by cases b <;> simp [AV.beq] at h; rfl
  | .nilI, b, h => by cases b <;> simp [AV.beq] at h; rfl
  | .top, b, h => by cases b <;> simp [AV.beq] at h; rfl
  | .agg as, b, h => by cases b <;> simp [AV.beq] at h; rw [AV.beqs_eq _ _ h]
  | .tup as, b, h => by cases b <;> simp [AV.beq] at h; rw [AV.beqs_eq _ _ h]
  | .cptr as, b, h => by cases b <;> simp [AV.beq] at h; rw [AV.beqs_eq _ _ h]
  | .ptr _ _, b, h => by cases b <;> simp [AV.beq] at h; simp [h]
  | .sl as n r, b, h => by cases b <;> simp [AV.beq] at h; rw [AV.beqs_eq _ _ h.1.1, h.1.2, h.2]
  | .msl _ _ _ _ _, b, h => by cases b <;> simp [AV.beq] at h; simp [h]
  | .map _, b, h => by cases b <;> simp [AV.beq] at h; simp [h]
  | .fn f as bs, b, h => by cases b <;> simp [AV.beq] at h; rw [h.1.1, AV.beqs_eq _ _ h.1.2, AV.beqs_eq _ _ h.2]
theorem AV.beqs_eq : ∀ a b : List AV, AV.beqs a b = true → a = b
  | [], b, h => by cases b <;> simp [AV.beqs] at h; rfl
  | a :: as, b, h => by
    cases b with
    | nil => simp [AV.beqs] at h
    | cons b bs => simp only [AV.beqs, Bool.and_eq_true] at h; rw [AV.beq_eq _ _ h.1, AV.beqs_eq _ _ h.2]
end

def listBeq {α : Type} (f : α → α → Bool) : List α → List α → Bool
  | [], [] => true
  | a :: as, b :: bs => f a b && listBeq f as bs
  | _, _ => false
theorem listBeq_eq {α : Type} {f : α → α → Bool} (hf : ∀ a b, f a b = true → a = b) : ∀ as bs, listBeq f as bs = true → as = bs
  | [], [], _ => rfl
  | a :: as, b :: bs, h => by
    simp only [listBeq, Bool.and_eq_true] at h
    rw [hf a b h.1, listBeq_eq hf as bs h.2]
  | [], _ :: _, h | _ :: _, [], h => by simp [listBeq] at h

def H.beq (a b : H) : Bool := listBeq AV.beqs a.blk b.blk && a.toks == b.toks && listBeq (listBeq fun x y => AV.beq x.1 y.1 && AV.beq x.2 y.2) a.maps b.maps
theorem H.beq_eq {a b : H} (h : H.beq a b = true) : a = b := by
  obtain ⟨a1, a2, a3⟩ := a
  obtain ⟨b1, b2, b3⟩ := b
  simp only [H.beq, Bool.and_eq_true, beq_iff_eq] at h
  have h1 := listBeq_eq AV.beqs_eq _ _ h.1.1
  have h3 := listBeq_eq (listBeq_eq (f := fun (x y : AV × AV) => AV.beq x.1 y.1 && AV.beq x.2 y.2) (fun x y h => by
    simp only [Bool.and_eq_true] at h
    exact Prod.ext (AV.beq_eq _ _ h.1) (AV.beq_eq _ _ h.2))) _ _ h.2
  rw [h1, h.1.2, h3]

def orders (ops : Array Oper) : Nat → Array Bool → List (List Nat)
  | 0, _ => [[]]
  | fuel + 1, listed =>
    match Region.ready .any ops listed with
    | [] => [[]]
    | rs => rs.flatMap fun i => (orders ops fuel (listed.setIfInBounds i true)).map (i :: ·)

section
variable {P : Program}

/-! ### whole trees of calls -/
end
end Go.VM
end
