/- Equality at a plain type. -/
import Derived.Test.YtbadfaiepgfpdaaVmF
import Derived.Laws.StructEq
import Derived.ChangeKeysEq
namespace Go.VM
section
variable {P : Program} {G : Ghost} {h : H} {w : World}

theorem flat_fold_none (fl : TypeId → Option (List Kd)) : ∀ fs : List Field, fs.foldl (flatStep P fl) none = none
  | [] => rfl
  | f :: fs => by simp only [List.foldl_cons]; exact flat_fold_none fl fs

def EqAtD (P : Program) (G : Ghost) (w : World) (d : Nat) : Prop :=
  ∀ D t ks, flat P d t = some ks → d ≤ D → ∀ xs ys vx vy b, VRels G xs vx → VRels G ys vy → eqs ks xs ys = some b → (Op.equalIn D t (rdCells P t vx) (rdCells P t vy)).run P w = .ok b w

theorem fields_run {d D : Nat} (hd : d ≤ D) (ih : EqAtD P G w d) : ∀ (fs : List Field) (l ks : List Kd), fs.foldl (flatStep P fun t => flat P d t) (some l) = some ks →
    ∃ rest, ks = l ++ rest ∧ ∀ xs ys vx vy b, l.length ≤ xs.length → l.length ≤ ys.length → VRels G xs vx → VRels G ys vy → eqs rest (xs.drop l.length) (ys.drop l.length) = some b →
      (Op.eqFields D vx.toArray vy.toArray fs).run P w = .ok b w
  | [], l, ks, h => by
    simp only [List.foldl_nil, Option.some.injEq] at h
    subst h
    refine ⟨[], by simp, fun xs ys vx vy b _ _ _ _ he => ?_⟩
    obtain ⟨h1, h2⟩ := eqs_len he
    have : b = true := by
      rw [List.length_eq_zero_iff.1 h1, List.length_eq_zero_iff.1 h2] at he
      simpa [eqs] using he.symm
    subst this
    simp [Op.eqFields]
  | f :: fs, l, ks, h => by
    simp only [List.foldl_cons] at h
    cases hm : flat P d f.type with
    | none => simp only [flatStep, hm] at h; rw [flat_fold_none] at h; cases h
    | some m =>
      simp only [flatStep, hm] at h
      split at h
      · rename_i hc
        obtain ⟨hn, ho, hs, hi⟩ := hc
        obtain ⟨rest, rfl, hrest⟩ := fields_run hd ih fs (l ++ m) ks h
        refine ⟨m ++ rest, by simp, fun xs ys vx vy b hlx hly hx hy he => ?_⟩
        obtain ⟨b1, b2, e1, e2, rfl⟩ := eqs_append he
        obtain ⟨de, hde, hone⟩ := flat_shape hm
        obtain ⟨lx, ly⟩ := eqs_len he
        have hxl := hx.length
        have hyl := hy.length
        simp only [List.length_drop, List.length_append] at lx ly
        have hsz : isAggT P f.type = false → m.length = 1 := hone
        have px := part_run' (w := w) hde hs vx.toArray f.offset (by simp; omega) hsz
        have py := part_run' (w := w) hde hs vy.toArray f.offset (by simp; omega) hsz
        rw [ho] at px py
        have e := ih D f.type m hm hd _ _ _ _ b1 ((hx.drop l.length).take m.length) ((hy.drop l.length).take m.length) e1
        have r2 := hrest xs ys vx vy b2 (by simp; omega) (by simp; omega) hx hy (by simpa [List.drop_drop, Nat.add_comm] using e2)
        simp only [Op.eqFields, hn, ne_eq, not_false_eq_true, if_true, Sem.run_bind, ho, px, py, Result.andThen_ok, e]
        cases b1
        · simp
        · simpa using r2
      · rw [flat_fold_none] at h; cases h

theorem aggT_struct {t : TypeId} {fs : Array Field} (h : P.underlying t = some (.struct fs)) : isAggT P t = true := by simp [isAggT, h]
theorem aggT_array {t e : TypeId} {n : Nat} (h : P.underlying t = some (.array n e)) : isAggT P t = true := by simp [isAggT, h]

theorem eqs_one {k : Kd} {xs ys : List AV} {b : Bool} (h : eqs [k] xs ys = some b) : ∃ x y, xs = [x] ∧ ys = [y] ∧ eq1 k x y = some b := by
  obtain ⟨h1, h2⟩ := eqs_len h
  match xs, ys, h1, h2 with
  | [x], [y], _, _ =>
    simp only [eqs] at h
    split at h
    · rename_i a c e1 e2
      simp only [Option.some.injEq] at e2 h
      subst e2 h
      exact ⟨x, y, rfl, rfl, by simpa using e1⟩
    · cases h

theorem rels_one' {x : AV} {vs : List Value} (h : VRels G [x] vs) : ∃ v, vs = [v] ∧ VRel G x v := by
  simp only [VRels] at h
  obtain ⟨v, vs', rfl, h1, rfl⟩ := h
  exact ⟨v, rfl, h1⟩

theorem replicate_drop_flatten {α : Type} (m : List α) (n : Nat) : (List.replicate (n + 1) m).flatten = m ++ (List.replicate n m).flatten := by
  simp [List.replicate_succ]

theorem items_run {d D : Nat} (hd : d ≤ D) (ih : EqAtD P G w d) {e : TypeId} {m : List Kd} (hm : flat P d e = some m) {de : TypeDesc} (hde : P.underlying e = some de) (hs : sizeT P e = some m.length) (hone : isAggT P e = false → m.length = 1) :
    ∀ (n j : Nat) (xs ys : List AV) (vx vy : List Value) (b : Bool), j * m.length ≤ xs.length → j * m.length ≤ ys.length → VRels G xs vx → VRels G ys vy →
      eqs (List.replicate n m).flatten (xs.drop (j * m.length)) (ys.drop (j * m.length)) = some b → (Op.eqItems D e m.length vx.toArray vy.toArray (List.range' j n)).run P w = .ok b w
  | 0, j, xs, ys, vx, vy, b, _, _, _, _, he => by
    simp only [List.replicate_zero, List.flatten_nil] at he
    obtain ⟨h1, h2⟩ := eqs_len he
    have : b = true := by
      rw [List.length_eq_zero_iff.1 h1, List.length_eq_zero_iff.1 h2] at he
      simpa [eqs] using he.symm
    subst this
    simp [Op.eqItems]
  | n + 1, j, xs, ys, vx, vy, b, hlx, hly, hx, hy, he => by
    rw [replicate_drop_flatten] at he
    obtain ⟨b1, b2, e1, e2, rfl⟩ := eqs_append he
    obtain ⟨lx, ly⟩ := eqs_len he
    have hxl := hx.length
    have hyl := hy.length
    simp only [List.length_drop, List.length_append] at lx ly
    have px := part_run' (w := w) hde hs vx.toArray (j * m.length) (by simp; omega) hone
    have py := part_run' (w := w) hde hs vy.toArray (j * m.length) (by simp; omega) hone
    have e := ih D e m hm hd _ _ _ _ b1 ((hx.drop (j * m.length)).take m.length) ((hy.drop (j * m.length)).take m.length) e1
    have hj : (j + 1) * m.length = j * m.length + m.length := by rw [Nat.add_mul, Nat.one_mul]
    have r2 := items_run hd ih hm hde hs hone n (j + 1) xs ys vx vy b2 (by rw [hj]; omega) (by rw [hj]; omega) hx hy (by rw [hj]; simpa [List.drop_drop] using e2)
    simp only [List.range'_succ, Op.eqItems, Sem.run_bind, px, py, Result.andThen_ok, e]
    cases b1
    · simp
    · simpa using r2

theorem equalIn_run (d : Nat) : EqAtD P G w d := by
  induction d with
  | zero => intro D t ks h; simp [flat] at h
  | succ d ih =>
    intro D t ks h hd xs ys vx vy b hx hy he
    obtain ⟨D, rfl⟩ : ∃ D', D = D' + 1 := ⟨D - 1, by omega⟩
    simp only [flat] at h
    split at h
    · rename_i hu
      simp only [Option.some.injEq] at h; subst h
      obtain ⟨x, y, rfl, rfl, e⟩ := eqs_one he
      obtain ⟨v, rfl, hv⟩ := rels_one' hx
      obtain ⟨v', rfl, hv'⟩ := rels_one' hy
      cases x <;> cases y <;> simp only [eq1, reduceCtorEq, Option.some.injEq] at e
      simp only [VRel] at hv hv'
      subst hv hv' e
      simp [rdCells, isAggT, hu, Op.equalIn, run_underlying hu]
    · rename_i k hu
      simp only [Option.some.injEq] at h; subst h
      obtain ⟨x, y, rfl, rfl, e⟩ := eqs_one he
      obtain ⟨v, rfl, hv⟩ := rels_one' hx
      obtain ⟨v', rfl, hv'⟩ := rels_one' hy
      cases x <;> cases y <;> simp only [eq1, reduceCtorEq] at e
      split at e
      · rename_i hk
        simp only [Option.some.injEq] at e
        simp only [VRel] at hv hv'
        subst hv hv' e hk
        simp [rdCells, isAggT, hu, Op.equalIn, run_underlying hu]
      · cases e
    · rename_i hu
      simp only [Option.some.injEq] at h; subst h
      obtain ⟨x, y, rfl, rfl, e⟩ := eqs_one he
      obtain ⟨v, rfl, hv⟩ := rels_one' hx
      obtain ⟨v', rfl, hv'⟩ := rels_one' hy
      cases x <;> cases y <;> simp only [eq1, reduceCtorEq, Option.some.injEq] at e
      simp only [VRel] at hv hv'
      subst hv hv' e
      simp [rdCells, isAggT, hu, Op.equalIn, run_underlying hu]
    · rename_i fs hu
      split at h
      · cases h
      · rename_i hst
        obtain ⟨rest, hks, hr⟩ := fields_run (Nat.le_of_succ_le_succ hd) ih fs.toList [] ks h
        have hf : P.fieldsOf t = fs := by simp [Program.fieldsOf, hu]
        rw [List.nil_append] at hks; subst hks
        have := hr xs ys vx vy b (by simp) (by simp) hx hy (by simpa using he)
        simp only [rdCells, aggT_struct hu, if_true]
        rw [run_equalIn_struct w D t _ _ (by rw [hf]; exact hu) (by simpa using hst), hf]
        exact this
    · rename_i n e hu
      split at h
      · rename_i m hm
        split at h
        · rename_i hs
          simp only [Option.some.injEq] at h; subst h
          simp only [sizeT, Option.map_eq_some_iff] at hs
          obtain ⟨i, hi, hsz⟩ := hs
          have hs' : sizeT P e = some m.length := by simp [sizeT, hi, hsz]
          obtain ⟨de, hde, hone⟩ := flat_shape hm
          simp only [rdCells, aggT_array hu, if_true]
          rw [run_equalIn_array w D _ _ hu hi]
          have hco : P.cellsOf e = m.length := by simp [Program.cellsOf, hi, hsz]
          rw [hco, List.range_eq_range']
          exact items_run (Nat.le_of_succ_le_succ hd) ih hm hde hs' hone n 0 xs ys vx vy b (by simp) (by simp) hx hy (by simpa using he)
        · cases h
      · cases h
    · cases h
end
end Go.VM
