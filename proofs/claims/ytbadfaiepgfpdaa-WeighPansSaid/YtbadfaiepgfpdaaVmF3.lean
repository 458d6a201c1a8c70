/- Operators. -/
import Derived.Test.YtbadfaiepgfpdaaVmF2
namespace Go.VM
section
variable {P : Program} {G : Ghost} {h : H} {w : World}

theorem rdCells_agg {t : TypeId} (ha : isAggT P t = true) {v : Value} {arr : Array Value} (hv : v = .agg arr) : rdCells P t v.cells.toList = v := by
  subst hv; simp [rdCells, ha, Value.cells]
theorem rdCells_one {t : TypeId} (ha : isAggT P t = false) {v : Value} (hv : v.oneCell' = true) : rdCells P t v.cells.toList = v := by
  have : v.cells = #[v] := by cases v <;> simp_all [Value.cells, Value.oneCell']
  rw [this]; simp [rdCells, ha]

theorem rdCells_self {t : TypeId} {x : AV} {v : Value} (hx : VRel G x v) {xs : List AV} (hc : x.cells? = some xs) (ha : isAggT P t = x.isAgg) : rdCells P t v.cells.toList = v := by
  cases x <;> simp only [AV.cells?, reduceCtorEq] at hc
  case agg cs =>
    simp only [VRel] at hx
    obtain ⟨vs, rfl, _⟩ := hx
    exact rdCells_agg ha rfl
  all_goals exact rdCells_one ha (hx.one rfl)

theorem aEq_run {t : TypeId} {x y : AV} {b : Bool} (he : aEq P t x y = some b) {vx vy : Value} (hx : VRel G x vx) (hy : VRel G y vy) : (Op.equal t vx vy).run P w = .ok b w := by
  simp only [aEq] at he
  split at he
  · rename_i ks xs ys hk hxs hys
    split at he
    · rename_i hc
      have := equalIn_run (P := P) (G := G) (w := w) 20 Op.maxDepth t ks hk (by simp [Op.maxDepth]) xs ys _ _ b (cells_rel hx hxs) (cells_rel hy hys) he
      rw [rdCells_self hx hxs hc.1, rdCells_self hy hys hc.2] at this
      exact this
    · cases he
  · cases he

theorem aIntOp_run {op : BinOp} {k : IntKind} {a b : Int} {r : AV} (hr : aIntOp op k a b = some r) (t : TypeId) (hs : ¬ (op = .shl ∨ op = .shr)) :
    ∃ u, (binOp op t (.int k a) (.int k b)).run P w = .ok u w ∧ VRel G r u := by
  cases op <;> simp only [aIntOp, Option.some.injEq, reduceCtorEq] at hr
  case quo | rem =>
    split at hr
    · cases hr
    · rename_i hb
      simp only [Option.some.injEq] at hr; subst hr
      exact ⟨_, by simp [binOp, Op.intDiv, hb]; rfl, by simp [VRel]⟩
  all_goals (subst hr; exact ⟨_, by simp [binOp, Op.intArith, Op.intCmp, Op.intBits]; rfl, by simp [VRel]⟩)

theorem aShift_run {op : BinOp} {k k' : IntKind} {a b : Int} {r : AV} (hr : aShift op k a b = some r) (t : TypeId) (hs : op = .shl ∨ op = .shr) :
    ∃ u, (binOp op t (.int k a) (.int k' b)).run P w = .ok u w ∧ VRel G r u := by
  simp only [aShift] at hr
  split at hr
  · cases hr
  · rename_i hb
    rcases hs with rfl | rfl <;> simp only [Option.some.injEq] at hr <;> subst hr <;>
      exact ⟨_, by simp [binOp, Op.shift, hb]; rfl, by simp [VRel]⟩

theorem slice_nil_rel {cs : List AV} {n : Nat} {r : Room} {v : Value} (hv : VRel G (.sl cs n r) v) : ∃ a l c, v = .slice a l c ∧ a.isNone = (r == .nil) := by
  simp only [VRel] at hv
  rcases hv with ⟨rfl, _, _, rfl⟩ | ⟨c, o, cap, vs, rfl, _, _, h3, _⟩
  · exact ⟨none, 0, 0, rfl, rfl⟩
  · refine ⟨_, _, _, rfl, ?_⟩
    cases r <;> simp [RoomOk] at h3 ⊢ <;> rfl

theorem eq_slices (d : Nat) {t e : TypeId} (hu : P.underlying t = some (.slice e)) {a a' : Option Addr} {l c l' c' : Nat} (hn : a.isNone = true ∨ a'.isNone = true) :
    (Op.equalIn (d + 1) t (.slice a l c) (.slice a' l' c')).run P w = .ok (a.isNone && a'.isNone) w := by
  cases a <;> cases a' <;> simp at hn <;> simp [Op.equalIn, run_underlying hu]

theorem isBoolT_eq {t : TypeId} (h : isBoolT P t = true) : P.underlying t = some .bool := by
  unfold isBoolT at h; split at h
  · assumption
  · cases h
theorem isSliceT_eq {t : TypeId} (h : isSliceT P t = true) : ∃ e, P.underlying t = some (.slice e) := by
  unfold isSliceT at h; split at h
  · exact ⟨_, by assumption⟩
  · cases h
theorem eqOnly_cases {op : BinOp} {b : Bool} {r : AV} (h : eqOnly op b = some r) : (op = .eql ∧ r = .bool b) ∨ (op = .neq ∧ r = .bool (!b)) := by
  cases op <;> simp [eqOnly] at h
  · exact .inl ⟨rfl, h.symm⟩
  · exact .inr ⟨rfl, h.symm⟩

theorem bin_ok {op : BinOp} {t : TypeId} {x y : AV} {r : AV} (hr : aBin P op t x y = some r) {vx vy : Value} (hx : VRel G x vx) (hy : VRel G y vy) (ox oy : Operand) :
    ∃ u, (do eqGuard op t ox oy vx vy; binOp op t vx vy : Sem Value).run P w = .ok u w ∧ VRel G r u := by
  unfold aBin at hr
  split at hr
  · rename_i k a k' b
    simp only [VRel] at hx hy
    subst hx hy
    have hg : (eqGuard op t ox oy (.int k a) (.int k' b)).run P w = .ok () w := by simp only [eqGuard]; split <;> rfl
    simp only [Sem.run_bind, hg, Result.andThen_ok]
    split at hr
    · rename_i hs; exact aShift_run hr t hs
    · rename_i hs
      split at hr
      · rename_i hk; subst hk; exact aIntOp_run hr t hs
      · cases hr
  · rename_i a b
    simp only [VRel] at hx hy
    subst hx hy
    have hg : (eqGuard op t ox oy (.bool a) (.bool b)).run P w = .ok () w := by simp only [eqGuard]; split <;> rfl
    simp only [Sem.run_bind, hg, Result.andThen_ok]
    split at hr
    · rename_i hu
      have hu' := isBoolT_eq hu
      rcases eqOnly_cases hr with ⟨rfl, rfl⟩ | ⟨rfl, rfl⟩
      · exact ⟨_, run_eql_bool w t a b hu', by simp [VRel]⟩
      · exact ⟨_, run_neq_bool w t a b hu', by simp [VRel]⟩
    · cases hr
  · rename_i a b
    simp only [VRel] at hx hy
    subst hx hy
    have hg : (eqGuard op t ox oy (.string a) (.string b)).run P w = .ok () w := by simp only [eqGuard]; split <;> rfl
    simp only [Sem.run_bind, hg, Result.andThen_ok]
    rcases eqOnly_cases hr with ⟨rfl, rfl⟩ | ⟨rfl, rfl⟩
    · exact ⟨_, by simp [binOp, Op.stringOp]; rfl, by simp [VRel]⟩
    · exact ⟨_, by simp [binOp, Op.stringOp]; rfl, by simp [VRel]⟩
  · rename_i as bs
    split at hr
    · cases hr
    · rename_i hg0
      have hg1 : P.eqGuardType P.depth t = false := by simpa using hg0
      have hx' := hx
      have hy' := hy
      simp only [VRel] at hx' hy'
      obtain ⟨vs, rfl, _⟩ := hx'
      obtain ⟨us, rfl, _⟩ := hy'
      simp only [Sem.run_bind, run_eqGuard_agg w op t ox oy vs us hg1, Result.andThen_ok]
      rw [Option.bind_eq_some_iff] at hr
      obtain ⟨b, he, hr⟩ := hr
      have hrun := aEq_run (w := w) he hx hy
      rcases eqOnly_cases hr with ⟨rfl, rfl⟩ | ⟨rfl, rfl⟩
      · exact ⟨_, by simp [binOp, hrun]; rfl, by simp [VRel]⟩
      · exact ⟨_, by simp [binOp, hrun]; rfl, by simp [VRel]⟩
  · rename_i cs n r0 cs' n' r0'
    split at hr
    · rename_i hc
      simp only [Bool.and_eq_true, Bool.or_eq_true] at hc
      obtain ⟨hu, hn⟩ := hc
      obtain ⟨e, hu'⟩ := isSliceT_eq hu
      obtain ⟨a, l, c, rfl, ha⟩ := slice_nil_rel hx
      obtain ⟨a', l', c', rfl, ha'⟩ := slice_nil_rel hy
      have hg : (eqGuard op t ox oy (.slice a l c) (.slice a' l' c')).run P w = .ok () w := by simp only [eqGuard]; split <;> rfl
      have hq : (Op.equal t (.slice a l c) (.slice a' l' c')).run P w = .ok (a.isNone && a'.isNone) w := by
        rw [← ha, ← ha'] at hn
        exact eq_slices 9999 hu' hn
      simp only [Sem.run_bind, hg, Result.andThen_ok]
      rw [← ha, ← ha'] at hr
      rcases eqOnly_cases hr with ⟨rfl, rfl⟩ | ⟨rfl, rfl⟩
      · exact ⟨_, by simp [binOp, hq]; rfl, by simp [VRel]⟩
      · exact ⟨_, by simp [binOp, hq]; rfl, by simp [VRel]⟩
    · cases hr
  · cases hr

theorem un_ok {op : UnOp} {x r : AV} (hr : aUn op x = some r) {v : Value} (hx : VRel G x v) : ∃ u, (Op.unary op v).run P w = .ok u w ∧ VRel G r u := by
  unfold aUn at hr
  split at hr
  · simp only [VRel] at hx; subst hx
    simp only [Option.some.injEq] at hr; subst hr
    exact ⟨_, by simp [Op.unary]; rfl, by simp [VRel]⟩
  · simp only [VRel] at hx; subst hx
    simp only [Option.some.injEq] at hr; subst hr
    exact ⟨_, by simp [Op.unary, Op.intArith]; rfl, by simp [VRel]⟩
  · cases hr

theorem convert_ok {src dst : TypeId} {x r : AV} (hr : aConvert P src dst x = some r) {v : Value} (hx : VRel G x v) : ∃ u, (convert src dst v).run P w = .ok u w ∧ VRel G r u := by
  unfold aConvert at hr
  split at hr
  · rename_i d k k' n hs hd
    simp only [VRel] at hx; subst hx
    simp only [Option.some.injEq] at hr; subst hr
    refine ⟨.int k (k.wrap n), ?_, by simp [VRel]⟩
    simp only [convert, Sem.run_bind, run_underlying hs, run_underlying hd, Result.andThen_ok]
    cases d <;> rfl
  · cases hr
end
end Go.VM
