/- Regions that draw their order: the theorem. -/
import Derived.Test.YtbadfaiepgfpdaaVmM4
namespace Go.VM
section
variable {P : Program} {G : Ghost} {w : World}

theorem first_eff (ops : Array Oper) : ∀ n, n ≤ ops.size → ∃ f, f ≤ n ∧ (∀ j o, j < f → ops[j]? = some o → effKind o.op = false) ∧ (f < n → ∃ o, ops[f]? = some o ∧ effKind o.op = true)
  | 0, _ => ⟨0, Nat.le_refl _, fun j o hj => absurd hj (Nat.not_lt_zero _), fun h => absurd h (Nat.lt_irrefl _)⟩
  | n + 1, hn => by
    obtain ⟨f, h1, h2, h3⟩ := first_eff ops n (by omega)
    by_cases hf : f < n
    · exact ⟨f, by omega, h2, fun _ => h3 hf⟩
    · have hfn : f = n := by omega
      subst hfn
      have ho : ops[f]? = some ops[f] := by simp [show f < ops.size by omega]
      by_cases he : effKind ops[f].op = true
      · exact ⟨f, by omega, h2, fun _ => ⟨_, ho, he⟩⟩
      · refine ⟨f + 1, Nat.le_refl _, fun j o hj hjo => ?_, fun h => absurd h (Nat.lt_irrefl _)⟩
        by_cases hjf : j < f
        · exact h2 j o hjf hjo
        · have : j = f := by omega
          subst this; rw [ho] at hjo; cases hjo; simpa using he

def unlisted (n : Nat) (listed : Array Bool) : Nat := ((List.range n).filter fun i => !listed.getD i false).length

theorem filter_lt {α : Type} {p q : α → Bool} : ∀ {l : List α} {x : α}, x ∈ l → p x = true → q x = false → (∀ y ∈ l, q y = true → p y = true) → (l.filter q).length < (l.filter p).length
  | [], x, h, _, _, _ => by cases h
  | y :: l, x, h, hp, hq, hi => by
    have hle : (l.filter q).length ≤ (l.filter p).length := by
      have : (l.filter q) = (l.filter p).filter q := by
        rw [List.filter_filter]
        apply List.filter_congr
        intro z hz
        cases hqz : q z
        · simp
        · simp [hi z (by simp [hz]) hqz]
      rw [this]; exact List.length_filter_le _ _
    rcases List.mem_cons.1 h with rfl | h
    · simp only [List.filter_cons, hp, hq, if_true, Bool.false_eq_true, if_false, List.length_cons]; omega
    · have ih := filter_lt h hp hq (fun z hz => hi z (by simp [hz]))
      simp only [List.filter_cons]
      by_cases hqy : q y = true
      · simp only [hqy, hi y (by simp) hqy, if_true, List.length_cons]; omega
      · simp only [hqy, Bool.false_eq_true, if_false]
        split
        · simp only [List.length_cons]; omega
        · exact ih

theorem quiet_not_eff {o : Op} (h : quietKind o = true) : effKind o = false := by
  cases o <;> first | rfl | (simp only [quietKind, Bool.false_eq_true] at h)

set_option maxHeartbeats 2000000 in
theorem draw_ok {p : Pures} (hm : P.follows .mixedOrders = true) (hp : PureOk P p) {β : Base} {ops : Array Oper} (hsim : simpleRegion ops = true) {A : List AV} {h : H} {A' : List AV} {h' : H} (hr : arun P (pureS p) β ops ops.toList A h = some (A', h'))
    {a : Act} (s : SRel G h w) (hβ : ∀ γ ∈ G.bases, γ.1 ≤ β.nb) (r : ARel G A a) {id : Nat} {Q : Exit → Act → World → Prop} (hQ : ∀ G' a' w', Step G h w G' h' w' → SRel G' h' w' → ARel G' A' a' → Q .normal a' w') : (Code.region id ops true).wp P Q a w := by
  have sim := simple_of hsim
  have hS := pureS_ok hp
  obtain ⟨As, hs, vs, t1, t2, t3, t4, t5⟩ := arun_trace _ _ _ _ _ hr
  have tr : Trace P (pureS p) β ops A h A' h' As hs vs := ⟨t1, t2, by simpa using t3, by simpa using t4, fun i o ho => t5 i o (by simpa using ho)⟩
  obtain ⟨f, f1, f2, f3⟩ := first_eff ops ops.size (Nat.le_refl _)
  have size_of : ∀ {i : Nat} {o : Oper}, ops[i]? = some o → i < ops.size := fun ho => (Array.getElem?_eq_some_iff.1 ho).1
  -- what each kind does in the text's order
  have hquiet : ∀ j o, ops[j]? = some o → quietKind o.op = true → hs (j + 1) = hs j := fun j o ho hk => by
    rcases (tr.step j o ho).2 with ⟨_, h2⟩ | ⟨_, _, h2⟩
    · obtain ⟨g, hg, _⟩ := quiet_form (P := P) (p := p) (β := β) (A := As j) hk
      rw [hg, Option.map_eq_some_iff] at h2
      obtain ⟨_, _, h2⟩ := h2
      simp only [Prod.mk.injEq] at h2; exact h2.2.symm
    · exact h2
  have halloc : ∀ j o e, ops[j]? = some o → o.op = .alloc e → awant ops (As j) o = some true → ∃ z, zeroCs P e = some z ∧ vs j = .ptr (hs j).blk.length 0 ∧ hs (j + 1) = { hs j with blk := (hs j).blk ++ [z] } := fun j o e ho hk hw => by
    rcases (tr.step j o ho).2 with ⟨_, h2⟩ | ⟨h2, _⟩
    · simp only [aop, hk, Option.map_eq_some_iff] at h2
      obtain ⟨z, hz, h2⟩ := h2
      simp only [Prod.mk.injEq] at h2
      exact ⟨z, hz, h2.1.symm, h2.2.symm⟩
    · rw [hw] at h2; cases h2
  have before_f : ∀ i o, ops[i]? = some o → (readsH o.op = true ∨ allocKind o.op = true) → i < f := fun i o ho hk => by
    by_cases hf : f < ops.size
    · obtain ⟨o', ho', he⟩ := f3 hf
      exact (sim.read i f o o' ho ho' he hk).2
    · have := size_of ho; omega
  have hstay : ∀ j o, f ≤ j → ops[j]? = some o → effKind o.op = false → hs (j + 1) = hs j := fun j o hj ho he => by
    rcases sim.kind j o ho with hk | hk | hk
    · exact hquiet j o ho hk
    · have := before_f j o ho (.inr hk); omega
    · rw [he] at hk; cases hk
  have hstep : ∀ j, j < f → ∃ zs, hs (j + 1) = { hs j with blk := (hs j).blk ++ zs } := fun j hj => by
    have ho : ops[j]? = some ops[j] := by simp [show j < ops.size by omega]
    rcases sim.kind j _ ho with hk | hk | hk
    · exact ⟨[], by rw [hquiet j _ ho hk]; simp⟩
    · cases hop : ops[j].op <;> rw [hop] at hk <;> simp only [allocKind, Bool.false_eq_true] at hk
      rcases (tr.step j _ ho).2 with ⟨h1, _⟩ | ⟨_, _, h1⟩
      · obtain ⟨z, _, _, hz⟩ := halloc j _ _ ho hop h1
        exact ⟨[z], hz⟩
      · exact ⟨[], by rw [h1]; simp⟩
    · rw [f2 j _ hj ho] at hk; cases hk
  have hprefix : ∀ d k, k + d = f → ∃ zs, hs f = { hs k with blk := (hs k).blk ++ zs } := by
    intro d
    induction d with
    | zero => intro k hk; have : k = f := by omega
              subst this; exact ⟨[], by simp⟩
    | succ d ih =>
      intro k hk
      obtain ⟨zs, hz⟩ := ih (k + 1) (by omega)
      obtain ⟨ys, hy⟩ := hstep k (by omega)
      exact ⟨ys ++ zs, by rw [hz, hy]; simp⟩
  have hpre : ∀ k, k ≤ f → ∃ zs, hs f = { hs k with blk := (hs k).blk ++ zs } := fun k hk => hprefix (f - k) k (by omega)
  obtain ⟨zs0, hzs0⟩ := hpre 0 (Nat.zero_le _)
  rw [tr.h0] at hzs0
  have hlenf : ∀ k, k ≤ f → (hs k).blk.length ≤ (hs f).blk.length := fun k hk => by
    obtain ⟨zs, hz⟩ := hpre k hk
    rw [hz]; simp
  have hlen0 : ∀ d k, k + d ≤ f → (hs k).blk.length ≤ (hs (k + d)).blk.length := by
    intro d
    induction d with
    | zero => intro k _; exact Nat.le_refl _
    | succ d ih =>
      intro k hk
      obtain ⟨ys, hy⟩ := hstep (k + d) (by omega)
      have := ih k (by omega)
      rw [show k + (d + 1) = k + d + 1 by omega, hy]; simp; omega
  have hlens : ∀ j k, j ≤ k → k ≤ f → (hs j).blk.length ≤ (hs k).blk.length := fun j k hj hk => by
    have := hlen0 (k - j) j (by omega)
    rwa [show j + (k - j) = k by omega] at this
  -- the invariant
  let D : Array Bool → Nat → Bool := fun listed i => listed.getD i false
  have main : ∀ (fuel : Nat) (listed : Array Bool) (G1 : Ghost) (w1 : World) (a1 : Act), listed.size = ops.size → Closed ops (D listed) → SRel G1 (HD (hs f) ops hs (D listed) ops.size) w1 → Step G h w G1 (HD (hs f) ops hs (D listed) ops.size) w1 →
      ARel G1 (AD A ops vs (D listed) ops.size) a1 →
      (∀ j o, ops[j]? = some o → allocKind o.op = true → D listed j = false → awant ops (As j) o = some true → G1.φ (hs j).blk.length = none) → unlisted ops.size listed ≤ fuel → wpAny P .any ops Q fuel listed a1 w1 := by
    -- when all is done
    have done : ∀ (listed : Array Bool) (G1 : Ghost) (w1 : World) (a1 : Act), (∀ i, i < ops.size → D listed i = true) → SRel G1 (HD (hs f) ops hs (D listed) ops.size) w1 → Step G h w G1 (HD (hs f) ops hs (D listed) ops.size) w1 →
        ARel G1 (AD A ops vs (D listed) ops.size) a1 → Q .normal a1 w1 := fun listed G1 w1 a1 hall s1 st1 r1 => by
      have e1 : HD (hs f) ops hs (D listed) ops.size = h' := by
        rw [HD_same (E := fun j => decide (j < ops.size)) ops.size (fun j o hj _ _ => by simp [hall j hj, hj]), HD_text rfl f2 hstay (fun _ _ => trivial) ops.size f1 (Nat.le_refl _) (Nat.le_refl _), tr.hn]
      have e2 : AD A ops vs (D listed) ops.size = A' := by
        rw [← tr.an, show As ops.size = As (min ops.size ops.size) by simp, ← AD_text tr (Nat.le_refl _) ops.size (Nat.le_refl _)]
        apply List.ext_getElem?
        intro t
        exact AD_same ops.size (fun j hj _ => by simp [hall j hj, hj])
      rw [e1] at s1 st1
      rw [e2] at r1
      exact hQ G1 a1 w1 st1 s1 r1
    have ready_all : ∀ (listed : Array Bool), listed.size = ops.size → Region.ready .any ops listed = [] → ∀ i, i < ops.size → D listed i = true := fun listed hsz hnil i => by
      induction i using Nat.strongRecOn with
      | _ i ih =>
        intro hi
        cases hd : D listed i
        · have : i ∈ Region.ready .any ops listed := by
            rw [mem_ready]
            refine ⟨?_, ops[i], by simp [hi], fun e he hb => ?_⟩
            · have hi' : i < listed.size := by omega
              simp only [D, Array.getD_eq_getD_getElem?, Array.getElem?_eq_getElem hi', Option.getD_some] at hd ⊢
              exact hd
            · have := sim.edge i ops[i] (by simp [hi]) e he hb
              exact ih e.on this (by omega)
          rw [hnil] at this; cases this
        · rfl
    intro fuel
    induction fuel with
    | zero =>
      intro listed G1 w1 a1 hsz hcl s1 st1 r1 hpn hfu
      have hall : ∀ i, i < ops.size → D listed i = true := fun i hi => by
        have h0 : ((List.range ops.size).filter fun i => !listed.getD i false) = [] := List.eq_nil_of_length_eq_zero (by unfold unlisted at hfu; omega)
        have := List.filter_eq_nil_iff.1 h0 i (by simpa using hi)
        simpa [D] using this
      refine ⟨?_, done listed G1 w1 a1 hall s1 st1 r1⟩
      apply List.eq_nil_iff_forall_not_mem.2
      intro j hj
      rw [mem_ready] at hj
      obtain ⟨h0, o, ho, _⟩ := hj
      have hlt : j < listed.size := by have := size_of ho; omega
      have := hall j (size_of ho)
      simp only [D, Array.getD_eq_getD_getElem?, Array.getElem?_eq_getElem hlt, Option.getD_some] at h0 this
      rw [h0] at this; cases this
    | succ fuel ih =>
      intro listed G1 w1 a1 hsz hcl s1 st1 r1 hpn hfu
      refine ⟨fun hnil => done listed G1 w1 a1 (ready_all listed hsz hnil) s1 st1 r1, fun i hi => ?_⟩
      rw [mem_ready] at hi
      obtain ⟨h0, o, ho, hpre1⟩ := hi
      have hin := size_of ho
      have hlt : i < listed.size := by omega
      have hDi : D listed i = false := by
        simp only [Array.getD_eq_getD_getElem?, Array.getElem?_eq_getElem hlt, Option.getD_some] at h0
        simp only [D, Array.getD_eq_getD_getElem?, Array.getElem?_eq_getElem hlt, Option.getD_some]; exact h0
      have ancD : ∀ k, isAnc (Region.before ops) k i = true → D listed k = true := fun k hk => anc_closed hcl i i (Nat.le_refl _) k o ho hpre1 hk
      have notD : ∀ k ok, ops[k]? = some ok → isAnc (Region.before ops) i k = true → D listed k = false := fun k ok hok hk => by
        cases hd : D listed k
        · rfl
        · have := anc_in hcl hok hd hk
          rw [hDi] at this; cases this
      -- slots
      have hslot : ∀ t, t ∈ names ops o → ∀ j, j < ops.size → (ops[j]?).bind (·.dst) = some t → j ≠ i → D listed j = decide (j < i) := fun t ht j hj hdst hji => by
        have hoj : ops[j]? = some ops[j] := by simp [hj]
        rw [hoj] at hdst
        simp only [Option.bind_some] at hdst
        rcases Nat.lt_or_gt_of_ne hji with hlt' | hgt'
        · rw [ancD j (sim.slot j i _ o hoj ho hlt' (by simp [hazard, hdst, ht]))]; simp [hlt']
        · rw [notD j _ hoj (sim.slot i j o _ ho hoj hgt' (by simp [hazard, hdst, ht]))]; simp; omega
      have hread : ∀ t, t ∈ o.looksAt ops → (AD A ops vs (D listed) ops.size)[t]? = (As i)[t]? := fun t ht => by
        rw [AD_same (E := fun j => decide (j < i)) ops.size, AD_text tr (by omega) ops.size (Nat.le_refl _), show min ops.size i = i by omega]
        intro j hj hdst
        by_cases hji : j = i
        · subst hji; rw [hDi]; simp
        · exact hslot t (by simp [names, ht]) j hj hdst hji
      have hev : ∀ x ∈ o.op.operands, aev (AD A ops vs (D listed) ops.size) x = aev (As i) x := fun x hx => aev_of_slots (fun t ht => by
        subst ht
        refine hread t ?_
        simp only [Oper.looksAt, List.mem_append, List.mem_filterMap]
        exact .inl ⟨.tmp t, by simpa using hx, rfl⟩)
      have hwant : awant ops (AD A ops vs (D listed) ops.size) o = awant ops (As i) o := by
        unfold awant
        split
        · rfl
        · rename_i g want hg
          cases hd : (ops[g]?).bind (·.dst) with
          | none => rfl
          | some d =>
            simp only
            rw [hread d (by simp [Oper.looksAt, hg, hd])]
      -- the next state
      let listed' := listed.setIfInBounds i true
      have hD' : ∀ j, D listed' j = (decide (j = i) || D listed j) := fun j => by
        simp only [D, listed', Array.getD_eq_getD_getElem?, Array.getElem?_setIfInBounds]
        by_cases hji : i = j
        · subst hji; simp [hlt]
        · simp [hji, Ne.symm hji]
      have hsz' : listed'.size = ops.size := by simpa [listed'] using hsz
      have hcl' : Closed ops (D listed') := fun j oj hoj hj e he hb => by
        rw [hD'] at hj ⊢
        simp only [Bool.or_eq_true, decide_eq_true_eq] at hj ⊢
        rcases hj with rfl | hj
        · rw [ho] at hoj; cases hoj; exact .inr (hpre1 e he hb)
        · exact .inr (hcl j oj hoj hj e he hb)
      have hAs_len : (As i).length = A.length := by
        have := AD_text tr (i := i) (by omega) ops.size (Nat.le_refl _)
        rw [show min ops.size i = i by omega] at this
        rw [← this, AD_len]
      have hAD' : AD A ops vs (D listed') ops.size = putA (AD A ops vs (D listed) ops.size) o.dst (vs i) := by
        apply List.ext_getElem?
        intro t
        rw [putA_get, AD_len]
        by_cases hd : o.dst = some t
        · rw [AD_same (E := fun j => decide (j < i + 1)) ops.size, AD_text tr (i := i + 1) (by omega) ops.size (Nat.le_refl _), show min ops.size (i + 1) = i + 1 by omega, (tr.step i o ho).1, putA_get, hAs_len]
          · by_cases htl : t < A.length
            · simp [hd, htl]
            · simp only [htl, and_false, if_false]
              rw [List.getElem?_eq_none (by omega), List.getElem?_eq_none (by rw [AD_len]; omega)]
          · intro j hj hdst
            rw [hD']
            by_cases hji : j = i
            · subst hji; simp
            · rw [hslot t (by simp [names, hd]) j hj hdst hji]
              simp only [hji, decide_false, Bool.false_or]
              congr 1; simp only [eq_iff_iff]; omega
        · simp only [hd, false_and, if_false]
          refine AD_same ops.size (fun j hj hdst => ?_)
          rw [hD']
          have : j ≠ i := fun e => by subst e; rw [ho] at hdst; exact hd hdst
          simp [this]
      have hun : unlisted ops.size listed' ≤ fuel := by
        have : unlisted ops.size listed' < unlisted ops.size listed := by
          refine filter_lt (x := i) (by simpa using hin) ?_ ?_ ?_
          · have := hDi; simp only [D] at this; simp [this]
          · have := hD' i; simp only [D, decide_true, Bool.true_or] at this; simp [this]
          · intro y _ hy
            have := hD' y; simp only [D] at this
            rw [this] at hy
            simp only [Bool.not_or, Bool.and_eq_true] at hy
            exact hy.2
        omega
      -- heaps
      have hHD_not : effKind o.op = false → HD (hs f) ops hs (D listed') ops.size = HD (hs f) ops hs (D listed) ops.size := fun he => by
        refine HD_same ops.size (fun j oj hj hoj hje => ?_)
        rw [hD']
        have : j ≠ i := fun e => by subst e; rw [ho] at hoj; cases hoj; rw [he] at hje; cases hje
        simp [this]
      have hHD_tail : ∀ m k, m ≤ k → k ≤ ops.size → HD (hs f) ops hs (fun j => decide (j < m)) k = HD (hs f) ops hs (fun j => decide (j < m)) m := by
        intro m k
        induction k with
        | zero => intro h1 _; have : m = 0 := by omega
                  subst this; rfl
        | succ k ihk =>
          intro h1 h2
          by_cases hmk : m = k + 1
          · subst hmk; rfl
          · simp only [HD]
            rw [if_neg (by simp; omega), ihk (by omega) (by omega)]
      have hHD_eff : effKind o.op = true → HD (hs f) ops hs (D listed) ops.size = hs i ∧ HD (hs f) ops hs (D listed') ops.size = hs (i + 1) := fun he => by
        have hfi : f ≤ i := by
          rcases Nat.lt_or_ge i f with q | q
          · rw [f2 i o q ho] at he; cases he
          · exact q
        have hDk : ∀ j oj, j < ops.size → ops[j]? = some oj → effKind oj.op = true → j ≠ i → D listed j = decide (j < i) := fun j oj hj hoj hje hji => by
          rcases Nat.lt_or_gt_of_ne hji with q | q
          · rw [ancD j (sim.eff j i oj o hoj ho q hje he)]; simp [q]
          · rw [notD j oj hoj (sim.eff i j o oj ho hoj q he hje)]; simp; omega
        constructor
        · rw [HD_same (E := fun j => decide (j < i)) ops.size, hHD_tail i ops.size (by omega) (Nat.le_refl _), HD_text rfl f2 hstay (fun _ _ => trivial) i hfi (by omega) (Nat.le_refl _)]
          intro j oj hj hoj hje
          by_cases hji : j = i
          · subst hji; rw [hDi]; simp
          · exact hDk j oj hj hoj hje hji
        · rw [HD_same (E := fun j => decide (j < i + 1)) ops.size, hHD_tail (i + 1) ops.size (by omega) (Nat.le_refl _), HD_text rfl f2 hstay (fun _ _ => trivial) (i + 1) (by omega) (by omega) (Nat.le_refl _)]
          intro j oj hj hoj hje
          rw [hD']
          by_cases hji : j = i
          · subst hji; simp
          · rw [hDk j oj hj hoj hje hji]
            simp only [hji, decide_false, Bool.false_or]
            congr 1; simp only [eq_iff_iff]; omega
      have hHD_first : (readsH o.op = true ∨ allocKind o.op = true) → HD (hs f) ops hs (D listed) ops.size = hs f := fun hk => by
        refine HD_none ops.size (fun j oj hj hoj hje => ?_)
        exact notD j oj hoj (sim.read i j o oj ho hoj hje hk).1
      have hbases1 : ∀ γ ∈ G1.bases, γ.1 ≤ β.nb := by rw [st1.bases]; exact hβ
      have hpend : ∀ (G2 : Ghost) (w2 : World) (h2 : H), Step G1 (HD (hs f) ops hs (D listed) ops.size) w1 G2 h2 w2 → (∀ j oj, ops[j]? = some oj → allocKind oj.op = true → D listed' j = false → awant ops (As j) oj = some true → G2.φ (hs j).blk.length = none) := by
        intro G2 w2 h2 st2 j oj hoj hjk hj hjw
        rw [hD'] at hj
        simp only [Bool.or_eq_false_iff, decide_eq_false_iff_not] at hj
        have hn := hpn j oj hoj hjk hj.2 hjw
        cases hq : G2.φ (hs j).blk.length with
        | none => rfl
        | some c =>
          -- it lies below what the heap holds now, so it was known before
          have hjf := before_f j oj hoj (.inr hjk)
          have hnoeff : HD (hs f) ops hs (D listed) ops.size = hs f := HD_none ops.size (fun k ok hk hok hke => by
            cases hd : D listed k
            · rfl
            · have := anc_in hcl hok hd (sim.read j k oj ok hoj hok hke (.inr hjk)).1
              rw [hj.2] at this; cases this)
          have hlt2 : (hs j).blk.length < (hs f).blk.length := by
            cases hop : oj.op <;> rw [hop] at hjk <;> simp only [allocKind, Bool.false_eq_true] at hjk
            obtain ⟨z, _, _, hz⟩ := halloc j oj _ hoj hop hjw
            have := hlens (j + 1) f (by omega) (Nat.le_refl _)
            rw [hz] at this; simp at this; omega
          have := st2.pend.1 _ c hq (by rw [hnoeff]; exact hlt2)
          rw [hn] at this; cases this
      show wpOp P ops Q i (wpAny P .any ops Q fuel listed') a1 w1
      unfold wpOp
      simp only [ho]
      rcases (tr.step i o ho).2 with ⟨hw, hop⟩ | ⟨hw, hv, hsame⟩
      · rw [awant_ok r1 (hwant.trans hw), if_pos rfl]
        left
        rcases sim.kind i o ho with hk | hk | hk
        · -- quiet
          have hneff : effKind o.op = false := quiet_not_eff hk
          have haop : aop P (pureS p) β o (AD A ops vs (D listed) ops.size) (HD (hs f) ops hs (D listed) ops.size) = some (vs i, HD (hs f) ops hs (D listed) ops.size) := by
            rw [aop_congr hev]
            obtain ⟨g, hg1, hg2, hg3⟩ := quiet_form (P := P) (p := p) (β := β) (A := As i) hk
            rw [hg1, Option.map_eq_some_iff] at hop
            obtain ⟨v, hv1, hv2⟩ := hop
            simp only [Prod.mk.injEq] at hv2
            rw [hg1]
            cases hrd : readsH o.op
            · rw [hg2 hrd _ (hs i), hv1, hv2.1]; rfl
            · rw [hHD_first (.inl hrd)]
              obtain ⟨zs, hz⟩ := hpre i (by have := before_f i o ho (.inl hrd); omega)
              rw [hz, hg3 _ zs v hv1, hv2.1]; rfl
          refine aop_ok hS s1 hbases1 r1 haop (fun G2 w2 u st2 s2 hrel => ?_)
          refine ih listed' G2 w2 _ hsz' hcl' ?_ ?_ ?_ (hpend G2 w2 _ st2) hun
          · rw [hHD_not hneff]; exact s2
          · rw [hHD_not hneff]; exact st1.trans st2
          · rw [hAD']; exact put_rel (r1.mono st2.le) hrel o.dst
        · -- alloc
          cases hoo : o.op <;> rw [hoo] at hk <;> simp only [allocKind, Bool.false_eq_true] at hk
          rename_i e
          have hneff : effKind o.op = false := by rw [hoo]; rfl
          obtain ⟨z, hz, hvi, hsi⟩ := halloc i o e ho hoo hw
          have hif := before_f i o ho (.inr (by rw [hoo]; rfl))
          have hHf := hHD_first (.inr (by rw [hoo]; rfl))
          obtain ⟨inf, zv, hinf, hzv, hrun, hrel⟩ := run_zero (w := w1) hz
          have hblk : (hs f).blk[(hs i).blk.length]? = some z := by
            obtain ⟨zs, hzs⟩ := hpre (i + 1) (by omega)
            rw [hzs, hsi]; simp
          have hn := hpn i o ho (by rw [hoo]; rfl) hDi hw
          rw [hHf] at s1 st1
          have hbl : ∀ γ ∈ G1.bases, γ.1 ≤ (hs i).blk.length := fun γ hγ => by
            rw [st1.bases] at hγ
            have h1 := (s.bases γ hγ).1
            have h2 := hlens 0 i (Nat.zero_le _) (by omega)
            rw [tr.h0] at h2; omega
          obtain ⟨G2, hle2, s2, hφ2, hφo, hst⟩ := s1.allocPend hblk hn hbl e (hrel G1)
          have st2 := hst G h w st1 (by have := hlens 0 i (Nat.zero_le _) (by omega); rw [tr.h0] at this; exact this)
          have hex : (execOp a1.eval o).run P w1 = .ok (.value (.pointer (some ⟨w1.heap.size, 0, none⟩))) (w1.alloc (.cells zv.cells e)) := by
            simp [execOp, hoo, Instr.alloc, hrun, newVar, newRow]
          unfold Oper.wp
          rw [hex]
          refine ih listed' G2 _ _ hsz' hcl' ?_ ?_ ?_ ?_ hun
          · rw [hHD_not hneff, hHf]; exact s2
          · rw [hHD_not hneff, hHf]; exact st2
          · rw [hAD', hvi]; exact put_rel (r1.mono hle2) (by simp only [VRel]; exact ⟨_, hφ2, rfl⟩) o.dst
          · intro j oj hoj hjk hj hjw
            rw [hD'] at hj
            simp only [Bool.or_eq_false_iff, decide_eq_false_iff_not] at hj
            rw [hφo]
            · exact hpn j oj hoj hjk hj.2 hjw
            · have hjf := before_f j oj hoj (.inr hjk)
              cases hop2 : oj.op <;> rw [hop2] at hjk <;> simp only [allocKind, Bool.false_eq_true] at hjk
              obtain ⟨z2, _, _, hz2⟩ := halloc j oj _ hoj hop2 hjw
              rcases Nat.lt_or_gt_of_ne hj.1 with q | q
              · have := hlens (j + 1) i (by omega) (by omega)
                rw [hz2] at this; simp at this; omega
              · have := hlens (i + 1) j (by omega) (by omega)
                rw [hsi] at this; simp at this; omega
        · -- an effect
          obtain ⟨e1, e2⟩ := hHD_eff hk
          rw [e1] at s1 st1
          refine aop_ok hS s1 hbases1 r1 (by rw [aop_congr hev]; exact hop) (fun G2 w2 u st2 s2 hrel => ?_)
          refine ih listed' G2 w2 _ hsz' hcl' ?_ ?_ ?_ (hpend G2 w2 _ (by rw [e1]; exact st2)) hun
          · rw [e2]; exact s2
          · rw [e2]; exact st1.trans st2
          · rw [hAD']; exact put_rel (r1.mono st2.le) hrel o.dst
      · -- not wanted
        rw [awant_ok r1 (hwant.trans hw)]
        simp only [Bool.false_eq_true, if_false]
        have hsameHD : HD (hs f) ops hs (D listed') ops.size = HD (hs f) ops hs (D listed) ops.size := by
          by_cases he : effKind o.op = true
          · obtain ⟨e1, e2⟩ := hHD_eff he
            rw [e1, e2, hsame]
          · exact hHD_not (by simpa using he)
        refine ih listed' G1 w1 _ hsz' hcl' ?_ ?_ ?_ (hpend G1 w1 _ (.refl _ _ _)) hun
        · rw [hsameHD]; exact s1
        · rw [hsameHD]; exact st1
        · rw [hAD', hv]; exact put_rel r1 (undef_rel G1) o.dst
  refine wp_region_any hm ?_
  have hD0 : ∀ j, D (Array.replicate ops.size false) j = false := fun j => by
    simp only [D, Array.getD_eq_getD_getElem?]
    by_cases hj : j < ops.size
    · simp [hj]
    · simp [hj]
  have hHD0 : HD (hs f) ops hs (D (Array.replicate ops.size false)) ops.size = hs f := HD_none _ (fun j o _ _ _ => hD0 j)
  have hAD0 : ∀ k, AD A ops vs (D (Array.replicate ops.size false)) k = A := fun k => by
    induction k with
    | zero => rfl
    | succ k ihk => simp only [AD, hD0, Bool.false_eq_true, if_false, ihk]
  have s0 : SRel G (hs f) { w with drawn := w.drawn + 1 } := by rw [hzs0]; exact (s.pendBlocks zs0).drawn _
  have st0 : Step G h w G (hs f) { w with drawn := w.drawn + 1 } := by
    rw [hzs0]
    exact ⟨.refl G, rfl, rfl, rfl, Nat.le_refl _, fun _ _ _ => rfl, fun _ ho => .inl ho, rfl, ⟨fun _ _ h _ => h, by simp⟩, fun _ _ _ h => .inl h⟩
  refine main ops.size _ G _ a (by simp) (fun j o _ hj => by rw [hD0] at hj; cases hj) (by rw [hHD0]; exact s0) (by rw [hHD0]; exact st0) (by rw [hAD0]; exact r) ?_ ?_
  · intro j o hoj hk _ hw
    cases hq : G.φ (hs j).blk.length with
    | none => rfl
    | some c =>
      have h1 := s.dom.φ _ c hq
      have h2 := hlens 0 j (Nat.zero_le _) (by have := before_f j o hoj (.inr hk); omega)
      rw [tr.h0] at h2; omega
  · unfold unlisted
    have := List.length_filter_le (fun i => !(Array.replicate ops.size false).getD i false) (List.range ops.size)
    simpa using this
end
end Go.VM
