/- Slices of slices; len, min, max. -/
import Derived.Test.YtbadfaiepgfpdaaVmG2
namespace Go.VM
section
variable {P : Program} {G : Ghost} {h : H} {w : World}

theorem len_ok (s : SRel G h w) {t : TypeId} {x y : AV} (hl : aLen P t x h = some y) {v : Value} (hx : VRel G x v) (ts : Array TypeId) (hts : ts[0]? = some t) (ty : TypeId) :
    ∃ u, (Builtin.len_ ts ty #[v]).run P w = .ok u w ∧ VRel G y u := by
  unfold aLen at hl
  split at hl
  · rename_i s0 hu
    simp only [VRel] at hx; subst hx
    simp only [Option.some.injEq] at hl; subst hl
    exact ⟨_, by simp [Builtin.len_, hts, run_underlying hu]; rfl, by simp [VRel, goInt]⟩
  · rename_i n e hu
    simp only [Option.some.injEq] at hl; subst hl
    exact ⟨_, by simp [Builtin.len_, hts, run_underlying hu]; rfl, by simp [VRel, goInt]⟩
  · rename_i e cs n r hu
    simp only [Option.some.injEq] at hl; subst hl
    simp only [VRel] at hx
    rcases hx with ⟨rfl, rfl, rfl, rfl⟩ | ⟨c, o, cap, vs, rfl, _⟩
    · exact ⟨_, by simp [Builtin.len_, hts, run_underlying hu]; rfl, by simp [VRel, goInt]⟩
    · exact ⟨_, by simp [Builtin.len_, hts, run_underlying hu]; rfl, by simp [VRel, goInt]⟩
  · rename_i e b o n cap z0 hu
    simp only [Option.some.injEq] at hl; subst hl
    simp only [VRel] at hx
    obtain ⟨c, _, rfl, _⟩ := hx
    exact ⟨_, by simp [Builtin.len_, hts, run_underlying hu]; rfl, by simp [VRel, goInt]⟩
  · rename_i k e hu
    simp only [Option.some.injEq] at hl; subst hl
    simp only [VRel] at hx; subst hx
    exact ⟨_, by simp [Builtin.len_, hts, run_underlying hu]; rfl, by simp [VRel, goInt]⟩
  · rename_i k e m hu
    rw [Option.map_eq_some_iff] at hl
    obtain ⟨M, hM, rfl⟩ := hl
    simp only [VRel] at hx
    obtain ⟨c, hc, rfl⟩ := hx
    obtain ⟨M', es, clock, h1, h2, h3, M2, h4, h5, _⟩ := s.map m c hc
    rw [hM] at h1; cases h1
    have : es.size = M.length := by rw [← h5, h4.length_eq]
    exact ⟨_, by simp [Builtin.len_, hts, run_underlying hu, getObj, Sem.run, h2]; rfl, by simp [VRel, goInt, this]⟩
  · cases hl

theorem minFold (mx : Bool) (k : IntKind) : ∀ (rest : List AV) (vs : List Value) (x r : Int), VRels G rest vs → minOf mx k x rest = some r →
    (vs.foldlM (if mx then Builtin.max2 else Builtin.min2) (.int k x)).run P w = .ok (.int k r) w
  | [], vs, x, r, hv, h => by
    simp only [VRels] at hv; subst hv
    simp only [minOf, Option.some.injEq] at h; subst h
    rfl
  | a :: rest, vs, x, r, hv, h => by
    simp only [VRels] at hv
    obtain ⟨v, vs', rfl, h1, h2⟩ := hv
    unfold minOf at h
    split at h
    · rename_i heq; cases heq
    · rename_i k' y rest' heq
      cases heq
      simp only [VRel] at h1; subst h1
      split at h
      · rename_i hk; subst hk
        have ih := minFold mx k _ vs' _ r h2 h
        rw [List.foldlM_cons, Sem.run_bind]
        cases mx <;> simpa [Builtin.min2, Builtin.max2, pick2] using ih
      · cases h
    · cases h

theorem min_ok (mx : Bool) {xs : List AV} {y : AV} (hm : aMin mx xs = some y) {vs : List Value} (hv : VRels G xs vs) (ts : Array TypeId) (ty : TypeId) :
    ∃ u, ((if mx then Builtin.max_ else Builtin.min_) ts ty vs.toArray).run P w = .ok u w ∧ VRel G y u := by
  unfold aMin at hm
  split at hm
  · rename_i k x rest
    rw [Option.map_eq_some_iff] at hm
    obtain ⟨r, hr, rfl⟩ := hm
    simp only [VRels] at hv
    obtain ⟨v, vs', rfl, h1, h2⟩ := hv
    simp only [VRel] at h1; subst h1
    have := minFold (P := P) (w := w) mx k rest vs' x r h2 hr
    refine ⟨.int k r, ?_, by simp [VRel]⟩
    cases mx <;> simpa [Builtin.min_, Builtin.max_] using this
  · cases hm

theorem bound_run {k : IntKind} {i : Int} {y : Nat} (h0 : 0 ≤ i) (h1 : i ≤ y) (code : BoundsCode) : (Instr.sliceBound (.int k i) y code).run P w = .ok i.toNat w := by
  simp [Instr.sliceBound, asIntOf, h0, h1]

theorem intOf_rel {x : Option AV} {v : Option Value} {i : Option Int} (hi : intOf? x = some i) (hx : (x = none ∧ v = none) ∨ ∃ a u, x = some a ∧ v = some u ∧ VRel G a u) :
    (i = none ∧ v = none) ∨ ∃ k n, i = some n ∧ v = some (.int k n) := by
  rcases hx with ⟨rfl, rfl⟩ | ⟨a, u, rfl, rfl, hr⟩
  · simp [intOf?] at hi; exact .inl ⟨hi.symm, rfl⟩
  · cases a <;> simp [intOf?] at hi
    simp only [VRel] at hr
    exact .inr ⟨_, _, hi.symm, by rw [hr]⟩

theorem opt_rel {A : List AV} {a : Act} (r : ARel G A a) (x : Option Operand) : (x.map (aev A) = none ∧ x.map a.eval = none) ∨ ∃ y u, x.map (aev A) = some y ∧ x.map a.eval = some u ∧ VRel G y u := by
  cases x with
  | none => exact .inl ⟨rfl, rfl⟩
  | some x => exact .inr ⟨_, _, rfl, rfl, aev_rel r x⟩

/-- the three bounds, where there is no max and the upper bound is at most what is known of the capacity -/
theorem bounds_run {len cap known : Nat} {isSlice : Bool} {lo hi : Option Int} {l k : Nat} (hb : aBounds known lo hi = some (l, k)) (hk : known ≤ cap) (hlen : hi = none → known = len)
    {vl vh : Option Value} (hl : (lo = none ∧ vl = none) ∨ ∃ k n, lo = some n ∧ vl = some (.int k n)) (hh : (hi = none ∧ vh = none) ∨ ∃ k n, hi = some n ∧ vh = some (.int k n)) :
    (Instr.sliceBounds isSlice len cap vl vh none).run P w = .ok (l, k, cap) w ∧ l ≤ k ∧ k ≤ known := by
  unfold aBounds at hb
  simp only at hb
  split at hb
  · rename_i hc
    simp only [Option.some.injEq, Prod.mk.injEq] at hb
    obtain ⟨rfl, rfl⟩ := hb
    obtain ⟨h1, h2, h3⟩ := hc
    refine ⟨?_, by omega, by omega⟩
    rcases hl with ⟨rfl, rfl⟩ | ⟨kl, nl, rfl, rfl⟩ <;> rcases hh with ⟨rfl, rfl⟩ | ⟨kh, nh, rfl, rfl⟩ <;> simp only [Option.getD_none, Option.getD_some] at *
    · simp [Instr.sliceBounds, hlen]
    · have b1 := bound_run (P := P) (w := w) (k := kh) (i := nh) (y := cap) h2 (by omega)
      simp [Instr.sliceBounds, b1]
    · have hkl := hlen trivial
      have b1 := bound_run (P := P) (w := w) (k := kl) (i := nl) (y := len) h1 (by omega)
      simp [Instr.sliceBounds, b1, hkl]
    · have b1 := bound_run (P := P) (w := w) (k := kh) (i := nh) (y := cap) (by omega) (by omega)
      have b2 := bound_run (P := P) (w := w) (k := kl) (i := nl) (y := nh.toNat) h1 (by omega)
      simp [Instr.sliceBounds, b1, b2]
  · cases hb

theorem bounds3_run {len cap : Nat} {isSlice : Bool} {lo : Option Int} {nh m : Int} {l k : Nat} {known : Nat} (hb : aBounds known lo (some nh) = some (l, k)) (hkm : (k : Int) ≤ m) (hm : m ≤ cap)
    {vl : Option Value} (hl : (lo = none ∧ vl = none) ∨ ∃ k n, lo = some n ∧ vl = some (.int k n)) (kh km : IntKind) :
    (Instr.sliceBounds isSlice len cap vl (some (.int kh nh)) (some (.int km m))).run P w = .ok (l, k, m.toNat) w ∧ l ≤ k ∧ k ≤ known := by
  unfold aBounds at hb
  simp only [Option.getD_some] at hb
  split at hb
  · rename_i hc
    simp only [Option.some.injEq, Prod.mk.injEq] at hb
    obtain ⟨rfl, rfl⟩ := hb
    obtain ⟨h1, h2, h3⟩ := hc
    refine ⟨?_, by omega, by omega⟩
    have b0 := bound_run (P := P) (w := w) (k := km) (i := m) (y := cap) (by omega) hm
    rcases hl with ⟨rfl, rfl⟩ | ⟨kl, nl, rfl, rfl⟩ <;> simp only [Option.getD_none, Option.getD_some] at *
    · have b1 := bound_run (P := P) (w := w) (k := kh) (i := nh) (y := m.toNat) (by omega) (by omega)
      simp [Instr.sliceBounds, b0, b1]
    · have b1 := bound_run (P := P) (w := w) (k := kh) (i := nh) (y := m.toNat) (by omega) (by omega)
      have b2 := bound_run (P := P) (w := w) (k := kl) (i := nl) (y := nh.toNat) h1 (by omega)
      simp [Instr.sliceBounds, b0, b1, b2]
  · cases hb
end
end Go.VM
