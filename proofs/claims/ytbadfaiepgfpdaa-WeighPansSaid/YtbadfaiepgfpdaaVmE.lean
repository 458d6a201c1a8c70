/- The abstract operations are right: the plain ones. -/
import Derived.Test.YtbadfaiepgfpdaaVmD
namespace Go.VM

theorem ofConst1_rel (G : Ghost) (v : Value) : VRel G (ofConst1 v) v := by
  unfold ofConst1
  split <;> simp [VRel]
theorem ofConst1_rels (G : Ghost) : ∀ vs : List Value, VRels G (vs.map ofConst1) vs
  | [] => by simp [VRels]
  | v :: vs => by simp only [List.map_cons, VRels]; exact ⟨v, vs, rfl, ofConst1_rel G v, ofConst1_rels G vs⟩
theorem ofConst_rel (G : Ghost) (v : Value) : VRel G (ofConst v) v := by
  unfold ofConst
  split
  · rename_i cs; simp only [VRel]; exact ⟨cs, rfl, ofConst1_rels G _⟩
  · simp [VRel, VRels]
  · exact ofConst1_rel G v

theorem cells_rel {G : Ghost} {a : AV} {v : Value} (h : VRel G a v) {cs : List AV} (hc : a.cells? = some cs) : VRels G cs v.cells.toList := by
  have one : ∀ {a : AV}, VRel G a v → a.one = true → VRels G [a] v.cells.toList := fun {a} h ha => by
    have h1 := h.one ha
    have : v.cells = #[v] := by cases v <;> simp_all [Value.cells, Value.oneCell']
    rw [this]; simp only [VRels]; exact ⟨v, [], rfl, h, rfl⟩
  cases a <;> simp only [AV.cells?, Option.some.injEq, reduceCtorEq] at hc <;> first
    | (subst hc; exact one h rfl)
    | (subst hc; simp only [VRel] at h; obtain ⟨vs, rfl, hs⟩ := h; exact hs)

structure ARel (G : Ghost) (A : List AV) (a : Act) : Prop where
  tmps : VRels G A a.tmps.toList
  defers : a.defers = []

theorem ARel.mono {G G' : Ghost} (h : G.Le G') {A : List AV} {a : Act} (r : ARel G A a) : ARel G' A a := ⟨VRels.mono h _ _ r.tmps, r.defers⟩

theorem aev_rel {G : Ghost} {A : List AV} {a : Act} (r : ARel G A a) (x : Operand) : VRel G (aev A x) (a.eval x) := by
  cases x with
  | tmp t =>
    simp only [aev, Act.eval]
    by_cases ht : t < A.length
    · obtain ⟨u, hu, hr⟩ := r.tmps.get t A[t] (by simp)
      have : a.tmps[t]? = some u := by simpa using hu
      simp only [List.getD, List.getElem?_eq_getElem ht, Option.getD_some, Array.getD_eq_getD_getElem?, this]
      exact hr
    · have hl : A.length = a.tmps.size := by simpa using r.tmps.length
      simp only [List.getD, List.getElem?_eq_none (Nat.le_of_not_lt ht), Option.getD_none, Array.getD_eq_getD_getElem?]
      rw [Array.getElem?_eq_none (hl ▸ Nat.le_of_not_lt ht)]
      simp [VRel, VRels, undef, AV.undef]
  | const v => exact ofConst_rel G v
  | global g => simp [aev, VRel]
  | func f => simp [aev, Act.eval, VRel, VRels]

def putA (A : List AV) (dst : Option Tmp) (v : AV) : List AV :=
  match dst with
  | some d => A.set d v
  | none => A

theorem put_rel {G : Ghost} {A : List AV} {a : Act} (r : ARel G A a) {v : AV} {u : Value} (h : VRel G v u) (dst : Option Tmp) : ARel G (putA A dst v) (a.put dst u) := by
  cases dst with
  | none => exact r
  | some d =>
    refine ⟨?_, r.defers⟩
    simp only [putA, Act.put, Array.toList_setIfInBounds]
    exact r.tmps.set d h

theorem rels_map {G : Ghost} {A : List AV} {a : Act} (r : ARel G A a) : ∀ xs : List Operand, VRels G (xs.map (aev A)) (xs.map a.eval)
  | [] => by simp [VRels]
  | x :: xs => by simp only [List.map_cons, VRels]; exact ⟨_, _, rfl, aev_rel r x, rels_map r xs⟩

/-- what one run of the model's text comes to -/
def RunOk (P : Program) (G : Ghost) (h : H) (w : World) (x : Sem Value) (v : AV) (h' : H) : Prop :=
  ∃ u w' G', x.run P w = .ok u w' ∧ Step G h w G' h' w' ∧ SRel G' h' w' ∧ VRel G' v u

/-- one that leaves the world alone -/
theorem RunOk.quiet {P : Program} {G : Ghost} {h : H} {w : World} {x : Sem Value} {v : AV} (s : SRel G h w) {u : Value} (hr : x.run P w = .ok u w) (hv : VRel G v u) : RunOk P G h w x v h :=
  ⟨u, w, G, hr, .refl _ _ _, s, hv⟩

section
variable {P : Program} {G : Ghost} {h : H} {w : World}

theorem run_typeInfo {t : TypeId} {i : TypeInfo} (hi : P.info? t = some i) : (typeInfo t).run P w = .ok i w := by simp [typeInfo, hi]
theorem run_sizeOf {t : TypeId} {i : TypeInfo} (hi : P.info? t = some i) : (sizeOf t).run P w = .ok i.size w := by simp [sizeOf, typeInfo, hi]
theorem run_sizeT {t : TypeId} {n : Nat} (hi : sizeT P t = some n) : (sizeOf t).run P w = .ok n w := by
  simp only [sizeT, Option.map_eq_some_iff] at hi
  obtain ⟨i, h1, h2⟩ := hi
  rw [run_sizeOf h1, h2]
theorem run_isAgg {t : TypeId} {d : TypeDesc} (hd : P.underlying t = some d) : (isAgg t).run P w = .ok (isAggT P t) w := by
  simp only [isAgg, isAggT, hd, Sem.run_bind, run_underlying hd, Result.andThen_ok]
  cases d <;> rfl
theorem run_zero {t : TypeId} {z : List AV} (hz : zeroCs P t = some z) : ∃ i v, P.info? t = some i ∧ i.zero = some v ∧ (zeroValue t).run P w = .ok v w ∧ ∀ G, VRels G z v.cells.toList := by
  simp only [zeroCs] at hz
  split at hz
  · rename_i i hi
    split at hz
    · rename_i v hv
      exact ⟨i, v, hi, hv, by simp [zeroValue, typeInfo, hi, hv], fun G => cells_rel (ofConst_rel G v) hz⟩
    · cases hz
  · cases hz

theorem newVar_ok (s : SRel G h w) {z : List AV} (e : TypeId) {v : Value} (hv : VRels G z v.cells.toList) :
    RunOk P G h w (do pure (.pointer (some (← newVar e v)))) (.ptr h.blk.length 0) { h with blk := h.blk ++ [z] } := by
  obtain ⟨G', s', st, hφ⟩ := s.alloc e hv
  refine ⟨.pointer (some ⟨w.heap.size, 0, none⟩), _, G', ?_, st, s', ?_⟩
  · simp [newVar, newRow]
  · simp only [VRel]; exact ⟨_, hφ, rfl⟩

theorem alloc_ok (s : SRel G h w) {e : TypeId} {z : List AV} (hz : zeroCs P e = some z) :
    RunOk P G h w (Instr.alloc e true (.tuple #[])) (.ptr h.blk.length 0) { h with blk := h.blk ++ [z] } := by
  obtain ⟨i, v, hi, hv, hr, hrel⟩ := run_zero (w := w) hz
  obtain ⟨u, w', G', h1, h2⟩ := newVar_ok (P := P) s e (hrel G)
  refine ⟨u, w', G', ?_, h2⟩
  simp only [Instr.alloc, Sem.run_bind, hr, Result.andThen_ok]
  exact h1

theorem box_ok (s : SRel G h w) {e : TypeId} {a : AV} {v : Value} {z : List AV} (hr : VRel G a v) (hz : a.cells? = some z) :
    RunOk P G h w (Instr.box e v) (.ptr h.blk.length 0) { h with blk := h.blk ++ [z] } := newVar_ok s e (cells_rel hr hz)

/-- a pointer's target -/
theorem target_rel (s : SRel G h w) {p : AV} {v : Value} (hp : VRel G p v) {cs : List AV} (ht : h.target p = some cs) :
    ∃ c o vs, v = .pointer (some ⟨c, o, none⟩) ∧ VRels G cs vs ∧ ∀ i u, vs[i]? = some u → w.cell? ⟨c, o + i, none⟩ = some u := by
  cases p <;> simp only [H.target, Option.map_eq_some_iff, Option.some.injEq, reduceCtorEq] at ht
  case ptr b o =>
    obtain ⟨cs0, h1, rfl⟩ := ht
    simp only [VRel] at hp
    obtain ⟨c, hc, rfl⟩ := hp
    obtain ⟨cs1, arr, e, h2, h3, h4⟩ := s.blk b c hc
    rw [h1] at h2; cases h2
    refine ⟨c, o, arr.toList.drop o, rfl, h4.drop o, fun i u hu => ?_⟩
    rw [cell_of_row w c (o + i) arr e (0, 0) h3]
    simpa using hu
  case cptr cs0 =>
    subst ht
    simp only [VRel] at hp
    obtain ⟨c, o, vs, rfl, h1, h2⟩ := hp
    exact ⟨c, o, vs, rfl, h1, fun i u hu => s.fr _ _ _ (h2 i u hu)⟩

theorem addr_add (c o n : Nat) : (⟨c, o, none⟩ : Addr).add n = ⟨c, o + n, none⟩ := Addr.add_lit c o n

theorem load_quiet (s : SRel G h w) {t : TypeId} {p : AV} {v : Value} (hp : VRel G p v) {cs : List AV} (ht : h.target p = some cs) {x : AV} (hl : aLoad P t cs = some x) :
    ∃ u, (Instr.loadAt t v).run P w = .ok u w ∧ VRel G x u := by
  obtain ⟨c, o, vs, rfl, hvs, hcell⟩ := target_rel s hp ht
  simp only [aLoad] at hl
  split at hl
  · cases hl
  · rename_i d hd
    have hag := run_isAgg (w := w) hd
    by_cases ha : isAggT P t = true
    · rw [if_pos ha] at hl
      split at hl
      · rename_i n hn
        split at hl
        · rename_i hle
          simp only [Option.some.injEq] at hl; subst hl
          have hlen := hvs.length
          have hrun := run_loadCells_list (P := P) w ⟨c, o, none⟩ (vs.take n) (fun j u hu => by
            rw [addr_add]
            refine hcell j u ?_
            rw [List.getElem?_take] at hu
            split at hu
            · exact hu
            · cases hu)
          have hlt : (vs.take n).length = n := by simp; omega
          rw [hlt] at hrun
          refine ⟨.agg (vs.take n).toArray, ?_, ?_⟩
          · simp [Instr.loadAt, Instr.sureAddr, loadVar, hag, ha, run_sizeT hn, hrun]
          · simp only [VRel]; exact ⟨_, rfl, by simpa using hvs.take n⟩
        · cases hl
      · cases hl
    · rw [if_neg ha] at hl
      obtain ⟨u, hu, hrel⟩ := hvs.get 0 x hl
      have hc0 := hcell 0 u hu
      refine ⟨u, ?_, hrel⟩
      simp only [Nat.add_zero] at hc0
      simp [Instr.loadAt, Instr.sureAddr, loadVar, hag, ha, hc0]

theorem load_ok (s : SRel G h w) {t : TypeId} {p : AV} {v : Value} (hp : VRel G p v) {cs : List AV} (ht : h.target p = some cs) {x : AV} (hl : aLoad P t cs = some x) :
    RunOk P G h w (Instr.loadAt t v) x h := by
  obtain ⟨u, h1, h2⟩ := load_quiet (P := P) s hp ht hl
  exact RunOk.quiet s h1 h2

theorem storeCells_run {c o : Nat} {arr : Array Value} {e : TypeId} (hh : w.heap[c]? = some (.cells arr e (0, 0))) (vs : List Value) (hl : o + vs.length ≤ arr.size) (h1 : ∀ v ∈ vs, v.oneCell' = true) :
    (storeCells ⟨c, o, none⟩ vs).run P w = .ok () (w.setRow c (arr.toList.take o ++ vs ++ arr.toList.drop (o + vs.length)).toArray) := by
  have := run_storeCells_at P c o e vs 0 arr w hh (by simpa using hl) h1
  simpa using this

theorem rels_one {as : List AV} {vs : List Value} (hr : VRels G as vs) (ha : as.all AV.one = true) : ∀ v ∈ vs, v.oneCell' = true := by
  intro v hv
  obtain ⟨i, hi⟩ := List.getElem?_of_mem hv
  obtain ⟨a, h1, h2⟩ := hr.get' i v hi
  exact h2.one (List.all_eq_true.1 ha a (List.mem_of_getElem? h1))

theorem putAt_rel {old cs : List AV} {vo vc : List Value} (ho : VRels G old vo) (hc : VRels G cs vc) (o : Nat) :
    VRels G (putAt old o cs) (vo.take o ++ vc ++ vo.drop (o + vc.length)) := by
  unfold putAt
  rw [hc.length]
  exact ((ho.take o).append hc).append (ho.drop _)

theorem bnds_append {nb nt nm : Nat} {as bs : List AV} : AV.bnds nb nt nm (as ++ bs) = (AV.bnds nb nt nm as && AV.bnds nb nt nm bs) := by
  rw [Bool.eq_iff_iff]; simp [AV.bnds_iff, or_imp, forall_and]
theorem bnds_take {nb nt nm : Nat} {as : List AV} (n : Nat) (h : AV.bnds nb nt nm as = true) : AV.bnds nb nt nm (as.take n) = true :=
  AV.bnds_iff.2 fun a ha => AV.bnds_iff.1 h a (List.mem_of_mem_take ha)
theorem bnds_drop {nb nt nm : Nat} {as : List AV} (n : Nat) (h : AV.bnds nb nt nm as = true) : AV.bnds nb nt nm (as.drop n) = true :=
  AV.bnds_iff.2 fun a ha => AV.bnds_iff.1 h a (List.mem_of_mem_drop ha)

theorem store_ok (s : SRel G h w) {β : Base} (hβ : ∀ γ ∈ G.bases, γ.1 ≤ β.nb) {t : TypeId} {p x : AV} {vp vx : Value} (hp : VRel G p vp) (hx : VRel G x vx) {h' : H} (hs : aStore P β t p x h = some h') :
    ∃ w', (Instr.storeAt t vp vx).run P w = .ok () w' ∧ Step G h w G h' w' ∧ SRel G h' w' := by
  simp only [aStore] at hs
  split at hs
  · rename_i b o cs n hcs hn
    split at hs
    · rename_i old hold
      split at hs
      · rename_i hcond
        simp only [Option.some.injEq] at hs; subst hs
        simp only [Bool.and_eq_true, decide_eq_true_eq, Bool.or_eq_true] at hcond
        obtain ⟨⟨⟨h1, h2⟩, h3⟩, h4⟩ := hcond
        simp only [VRel] at hp
        obtain ⟨c, hc, rfl⟩ := hp
        obtain ⟨cs1, arr, e, k1, k2, k3⟩ := s.blk b c hc
        rw [hold] at k1; cases k1
        have hvs := cells_rel hx hcs
        have hl1 := hvs.length
        have hl2 := k3.length
        have hst := storeCells_run (P := P) (o := o) k2 vx.cells.toList (by simp at hl1 hl2 ⊢; omega) (rels_one hvs h3)
        have hnew := putAt_rel k3 hvs o
        obtain ⟨sA, stA⟩ := s.write hc k2 (arr' := (arr.toList.take o ++ vx.cells.toList ++ arr.toList.drop (o + vx.cells.toList.length)).toArray) (cs' := putAt old o cs) (by simpa using hnew) (by
          intro γ hγ hb
          obtain ⟨b1, b2, b3, b4⟩ := s.bases γ hγ
          have hold' := b4 b c old hc hb hold
          rcases h4 with h4 | h4
          · have := hβ γ hγ; omega
          · unfold putAt
            rw [bnds_append, bnds_append]
            simp only [Bool.and_eq_true]
            exact ⟨⟨bnds_take _ hold', AV.bnds_mono (Nat.zero_le _) (Nat.zero_le _) (Nat.zero_le _) _ h4⟩, bnds_drop _ hold'⟩)
        refine ⟨_, ?_, stA, sA⟩
        have hsz : vx.cells.size = n := by simp at hl1; omega
        simp only [Instr.storeAt, Instr.sureAddr, storeVar, Sem.run_bind, Sem.run_pure, Result.andThen_ok, run_sizeT hn, hsz]
        simp only [ne_eq, not_true_eq_false, if_false, Sem.run_pure, Result.andThen_ok]
        exact hst
      · cases hs
    · cases hs
  · cases hs
end
end Go.VM
