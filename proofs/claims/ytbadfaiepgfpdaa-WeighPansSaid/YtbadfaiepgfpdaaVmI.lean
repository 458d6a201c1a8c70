/- Maps. -/
import Derived.Test.YtbadfaiepgfpdaaVmH2
namespace Go.VM
section
variable {P : Program} {G : Ghost} {h : H} {w : World}

theorem ba_beq (a b : ByteArray) : (a == b) = true ↔ a = b := by
  rw [beq_toListBytes, beq_iff_eq, ByteArray.toList_eq, ByteArray.toList_eq]
  obtain ⟨⟨x⟩⟩ := a
  obtain ⟨⟨y⟩⟩ := b
  simp

theorem eq1_true {k : Kd} {x y : AV} (h : eq1 k x y = some true) : x = y := by
  cases k <;> cases x <;> cases y <;> simp only [eq1, reduceCtorEq, Option.some.injEq, beq_iff_eq] at h
  · subst h; rfl
  · split at h
    · rename_i hk; subst hk; simp at h; subst h; rfl
    · cases h
  · rw [(ba_beq _ _).1 h]
theorem eqs_true : ∀ {ks : List Kd} {xs ys : List AV}, eqs ks xs ys = some true → xs = ys
  | [], [], [], _ => rfl
  | k :: ks, x :: xs, y :: ys, h => by
    simp only [eqs] at h
    split at h
    · rename_i a b h1 h2
      simp only [Option.some.injEq, Bool.and_eq_true] at h
      obtain ⟨rfl, rfl⟩ := h
      rw [eq1_true h1, eqs_true h2]
    · cases h
  | [], [], _ :: _, h | [], _ :: _, _, h | _ :: _, [], _, h | _ :: _, _ :: _, [], h => by simp [eqs] at h
theorem eq1_self {k : Kd} {x y : AV} {b : Bool} (h : eq1 k x y = some b) : eq1 k x x = some true := by
  cases k <;> cases x <;> cases y <;> simp only [eq1, reduceCtorEq] at h <;> simp [eq1, ba_beq]
theorem eqs_self : ∀ {ks : List Kd} {xs ys : List AV} {b : Bool}, eqs ks xs ys = some b → eqs ks xs xs = some true
  | [], [], [], _, _ => rfl
  | k :: ks, x :: xs, y :: ys, b, h => by
    simp only [eqs] at h
    split at h
    · rename_i a c h1 h2
      simp [eqs, eq1_self h1, eqs_self h2]
    · cases h
  | [], [], _ :: _, _, h | [], _ :: _, _, _, h | _ :: _, [], _, _, h | _ :: _, _ :: _, [], _, h => by simp [eqs] at h

theorem cells_not {x : AV} {xs : List AV} (hx : x.cells? = some xs) (ha : x.isAgg = false) : xs = [x] := by
  cases x <;> simp [AV.cells?, AV.isAgg] at hx ha <;> exact hx.symm
theorem cells_agg {x : AV} {xs : List AV} (hx : x.cells? = some xs) (ha : x.isAgg = true) : x = .agg xs := by
  cases x <;> simp [AV.cells?, AV.isAgg] at hx ha
  subst hx; rfl
theorem cells_inj {x y : AV} {xs : List AV} (hx : x.cells? = some xs) (hy : y.cells? = some xs) (ha : x.isAgg = y.isAgg) : x = y := by
  cases h : x.isAgg
  · have h1 := cells_not hx h
    have h2 := cells_not hy (ha ▸ h)
    rw [h1] at h2; simpa using h2
  · rw [cells_agg hx h, cells_agg hy (ha ▸ h)]

theorem aEq_true {t : TypeId} {x y : AV} (h : aEq P t x y = some true) : x = y := by
  unfold aEq at h
  split at h
  · rename_i ks xs ys h1 h2 h3
    split at h
    · rename_i hc
      have := eqs_true h; subst this
      exact cells_inj h2 h3 (hc.1.symm.trans hc.2)
    · cases h
  · cases h
theorem aEq_self {t : TypeId} {x y : AV} {b : Bool} (h : aEq P t x y = some b) : aEq P t x x = some true := by
  unfold aEq at h ⊢
  split at h
  · rename_i ks xs ys h1 h2 h3
    split at h
    · rename_i hc
      simp only [h1, h2, hc.1, and_self, if_true]
      exact eqs_self h
    · cases h
  · cases h
theorem aEq_false {t : TypeId} {x y : AV} (h : aEq P t x y = some false) : x ≠ y := fun e => by
  subst e
  have := aEq_self h
  rw [h] at this; cases this

theorem keyOk_spec {kt : TypeId} {k : AV} {M : List (AV × AV)} (h : keyOk P kt k M = true) : aEq P kt k k = some true ∧ k.key = true ∧ ∀ kv ∈ M, aEq P kt k kv.1 = some (keyIs P kt k kv) ∧ (keyIs P kt k kv = true ↔ kv.1 = k) := by
  simp only [keyOk, Bool.and_eq_true, beq_iff_eq, List.all_eq_true] at h
  obtain ⟨⟨h1, h2⟩, h3⟩ := h
  refine ⟨h1, h2, fun kv hkv => ?_⟩
  obtain ⟨b, hb⟩ := Option.isSome_iff_exists.1 (h3 kv hkv)
  unfold keyIs
  rw [hb]
  cases b
  · simp; exact fun e => aEq_false hb e.symm
  · simp; exact (aEq_true hb).symm

/-- one value alone stands for a key -/
theorem key1_rel {a : AV} (ha : a.key1 = true) {v : Value} (h : VRel G a v) : (∀ G' v', VRel G' a v' → v' = v) ∧ ∀ n, Instr.sameBits n v v = true := by
  cases a <;> simp only [AV.key1, Bool.false_eq_true] at ha <;> simp only [VRel] at h <;> subst h <;>
    refine ⟨fun G' v' h' => by simpa only [VRel] using h', fun n => ?_⟩ <;> cases n <;> simp [Instr.sameBits, ba_beq]

theorem keys_rel : ∀ {as : List AV} {vs : List Value}, as.all AV.key1 = true → VRels G as vs → (∀ G' vs', VRels G' as vs' → vs' = vs) ∧ ∀ n, (vs.zip vs).all (fun (x, y) => Instr.sameBits n x y) = true
  | [], vs, _, h => by
    simp only [VRels] at h; subst h
    exact ⟨fun G' vs' h' => by simpa only [VRels] using h', fun n => by simp⟩
  | a :: as, vs, ha, h => by
    simp only [List.all_cons, Bool.and_eq_true] at ha
    simp only [VRels] at h
    obtain ⟨v, vs0, rfl, h1, h2⟩ := h
    obtain ⟨k1, k2⟩ := key1_rel ha.1 h1
    obtain ⟨k3, k4⟩ := keys_rel ha.2 h2
    refine ⟨fun G' vs' h' => ?_, fun n => by simp only [List.zip_cons_cons, List.all_cons, k2, k4, Bool.and_self]⟩
    simp only [VRels] at h'
    obtain ⟨v', vs1, rfl, q1, q2⟩ := h'
    rw [k1 _ _ q1, k3 _ _ q2]

theorem key_rel {a : AV} (ha : a.key = true) {v : Value} (h : VRel G a v) : (∀ G' v', VRel G' a v' → v' = v) ∧ ∀ n, Instr.sameBits (n + 1) v v = true := by
  cases a
  case agg cs =>
    simp only [AV.key] at ha
    simp only [VRel] at h
    obtain ⟨vs, rfl, hs⟩ := h
    obtain ⟨k1, k2⟩ := keys_rel ha hs
    refine ⟨fun G' v' h' => ?_, fun n => by simp [Instr.sameBits]; intro a b hab; have := List.all_eq_true.1 (k2 n) (a, b) hab; simpa using this⟩
    simp only [VRel] at h'
    obtain ⟨vs', rfl, hs'⟩ := h'
    have := k1 _ _ hs'
    rw [show vs' = vs from Array.toList_inj.1 this]
  all_goals (simp only [AV.key] at ha; exact ⟨(key1_rel ha h).1, fun n => (key1_rel ha h).2 _⟩)
end
end Go.VM
