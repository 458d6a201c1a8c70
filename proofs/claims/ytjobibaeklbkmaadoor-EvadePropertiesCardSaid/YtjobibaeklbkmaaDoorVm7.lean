/- Own texts on reading the model, joined: VmTh, VmTw, VmM7, VmM8, VmZ4, VmIx, VmGl, VmRw. -/
import Derived.Test.YtjobibaeklbkmaaDoorVm6
import Derived.ProofKit
import Derived.LaidLaws
import Derived.Lay
import Derived.OpenShut
set_option linter.unusedSimpArgs false
set_option linter.unusedVariables false
set_option linter.unnecessarySimpa false
section
/- A slice that was put together by append may be written from a point on at which nothing else looks at it. -/
namespace Go.VM
set_option linter.unusedSectionVars false
variable [Inhabited Globs]

mutual
/-- nothing of it lies in a block that is known for ever, but in slices of these tokens -/
def AV.ind (ts : List Nat) : AV → Bool
  | .agg cs | .tup cs => AV.inds ts cs
  | .cptr _ => false
  | .sl cs n r => AV.inds ts cs && (match r with | .tok t _ => decide (ts[t]? = some n) | .nil | .e => true | _ => cs.isEmpty)
  | .fn _ a b => AV.inds ts a && AV.inds ts b
  | _ => true
def AV.inds (ts : List Nat) : List AV → Bool
  | [] => true
  | a :: as => AV.ind ts a && AV.inds ts as
end
structure Ghost.But (ts : List Nat) (c : Nat) (G G' : Ghost) : Prop where
  φ : ∀ b x, G.φ b = some x → G'.φ b = some x
  fr : ∀ x o v, x ≠ c → G.fr x o = some v → G'.fr x o = some v
  tk : ∀ t n x, ts[t]? = some n → G.tk t n = some x → G'.tk t n = some x ∧ x.1 ≠ c
  mp : ∀ m x, G.mp m = some x → G'.mp m = some x
mutual
theorem VRel.ind {ts : List Nat} {c : Nat} {G G' : Ghost} (h : G.But ts c G') : ∀ (a : AV) (v : Value), a.ind ts = true → VRel G a v → VRel G' a v
  | .bool _, _, _, hv | .int _ _, _, _, hv | .str _, _, _, hv | .nilP, _, _, hv | .nilM, _, _, hv | .nilF, _, _, hv | .nilI, _, _, hv | .top, _, _, hv => by first | (simp only [VRel]; done) | (simp only [VRel] at hv ⊢; exact hv)
  | .agg cs, v, hb, hv => by
    simp only [VRel, AV.ind] at *
    obtain ⟨vs, e, hs⟩ := hv; exact ⟨vs, e, VRels.ind h cs _ hb hs⟩
  | .tup cs, v, hb, hv => by
    simp only [VRel, AV.ind] at *
    obtain ⟨vs, e, hs⟩ := hv; exact ⟨vs, e, VRels.ind h cs _ hb hs⟩
  | .ptr b o, v, hb, hv => by
    simp only [VRel] at *
    obtain ⟨c, e, hs⟩ := hv; exact ⟨c, h.φ _ _ e, hs⟩
  | .cptr cs, v, hb, hv => by simp [AV.ind] at hb
  | .sl cs n r, v, hb, hv => by
    simp only [VRel, AV.ind, Bool.and_eq_true] at *
    rcases hv with hv | ⟨c', o, cap, vs, e, h1, h2, h3, hs, hf⟩
    · exact .inl hv
    · refine .inr ⟨c', o, cap, vs, e, h1, h2, ?_, VRels.ind h cs _ hb.1 hs, ?_⟩
      · cases r with
        | tok t z =>
          have := hb.2
          simp only [decide_eq_true_eq] at this
          exact ⟨h3.1, (h.tk _ _ _ this h3.2).1⟩
        | _ => exact h3
      · intro i u hu
        cases r with
        | tok t z =>
          have := hb.2
          simp only [decide_eq_true_eq] at this
          exact h.fr _ _ _ (h.tk _ _ _ this h3.2).2 (hf i u hu)
        | nil => exact h3.elim
        | e => exact h3.elim
        | full =>
          have hl := hs.length
          have := hb.2
          simp only [List.isEmpty_iff] at this
          subst this
          cases vs with
          | nil => simp at hu
          | cons => simp at hl
        | no =>
          have hl := hs.length
          have := hb.2
          simp only [List.isEmpty_iff] at this
          subst this
          cases vs with
          | nil => simp at hu
          | cons => simp at hl
  | .msl b o n cap z, v, hb, hv => by
    simp only [VRel] at *
    obtain ⟨c, e, hs⟩ := hv; exact ⟨c, h.φ _ _ e, hs⟩
  | .map m, v, hb, hv => by
    simp only [VRel] at *
    obtain ⟨c, e, hs⟩ := hv; exact ⟨c, h.mp _ _ e, hs⟩
  | .fn f a b, v, hb, hv => by
    simp only [VRel, AV.ind, Bool.and_eq_true] at *
    obtain ⟨fs, cs, e, h1, h2⟩ := hv; exact ⟨fs, cs, e, VRels.ind h a _ hb.1 h1, VRels.ind h b _ hb.2 h2⟩
theorem VRels.ind {ts : List Nat} {c : Nat} {G G' : Ghost} (h : G.But ts c G') : ∀ (as : List AV) (vs : List Value), AV.inds ts as = true → VRels G as vs → VRels G' as vs
  | [], _, _, hv => by simpa only [VRels] using hv
  | a :: as, vs, hb, hv => by
    simp only [VRels, AV.inds, Bool.and_eq_true] at *
    obtain ⟨v, vs', e, h1, h2⟩ := hv; exact ⟨v, vs', e, VRel.ind h a v hb.1 h1, VRels.ind h as vs' hb.2 h2⟩
end
def tOk (k n : Nat) (ts : List Nat) : AV → Bool
  | .sl cs n' (.tok t z) => if t = k then decide (n' = n) else AV.ind ts (.sl cs n' (.tok t z))
  | a => a.ind ts
section
variable {Ge G : Ghost} {he h : H} {we w : World}
/-- where the slice stands -/
def TMain (vs : List AV) (h : H) (cs : List AV) (n k z : Nat) : Prop := .sl cs n (.tok k z) ∈ vs ∨ ∃ b o x, .ptr b o ∈ vs ∧ h.blk[b]? = some x ∧ .sl cs n (.tok k z) ∈ x
structure Thaw (vs : List AV) (h : H) (k n z : Nat) (cs : List AV) : Prop where
  main : TMain vs h cs n k z
  maps : h.maps = []
  tok : h.toks[k]? = some n
  cs : AV.inds (h.toks.take k) cs = true
  vs : ∀ a ∈ vs, tOk k n (h.toks.take k) a = true
  blk : ∀ x ∈ h.blk, ∀ a ∈ x, tOk k n (h.toks.take k) a = true
end
theorem inds_map {α : Type} {f : α → AV} (hf : ∀ ts x, (f x).ind ts = true) (ts : List Nat) : ∀ l : List α, AV.inds ts (l.map f) = true
  | [] => rfl
  | x :: l => by simp only [List.map_cons, AV.inds, hf ts x, inds_map hf ts l]; rfl
@[simp] theorem inds_ints (ts : List Nat) (l : List Int) : AV.inds ts (ints l) = true := inds_map (fun _ _ => rfl) ts l
end Go.VM
end
section
/- A region that makes one slice, in the empty heap: from then on the slice may be written; what was there before stays known. -/
namespace Go.VM
set_option linter.unusedSectionVars false
variable [Inhabited Globs]
section
variable {P : Program}
def regId : Code → Nat
  | .region id _ _ => id
  | _ => 0
def regOps : Code → Array Oper
  | .region _ ops _ => ops
  | _ => #[]
def sq1 : Code → Code
  | .seq x _ => x
  | c => c
def sq2 : Code → Code
  | .seq _ y => y
  | c => c
theorem SemC.seq {lv : Prop} {β : Base} {x y : Code} {A : List AV} {h : H} {K1 K : AX → List AV → H → Prop} (hx : SemC P lv β x A h K1) (hn : ∀ e A1 h1, K1 e A1 h1 → e = .normal) (hy : ∀ A1 h1, K1 .normal A1 h1 → SemC P lv β y A1 h1 K) : SemC P lv β (.seq x y) A h K := by
  intro ro Ge he we en obs G w a t Q hQ
  refine wpIn_seq ?_
  refine hx ro Ge he we en obs G w a t _ (fun x1 A1 h1 G1 a1 w1 hk t1 l1 => ?_)
  obtain rfl := hn _ _ _ hk
  exact hy _ _ hk ro Ge he we en obs G1 w1 a1 t1 Q (fun x A' h' G' a' w' hk2 t2 l2 => hQ x A' h' G' a' w' hk2 t2 fun q => (l1 q).trans (l2 q))
theorem SemC.read {E : Env} {M : FuncId → Bool} (hR : Rests E M) {c : Code} (hc : allSimpleM M c = true) {A : List AV} {h : H} {K : Kn} (hw : ∃ os, ∀ u : Nat → AV, Led (wS E c A h os K)) : SemC E.P (E.n = 300) E.β c A h (fun x A' h' => ∃ os', K x A' h' os') := by
  obtain ⟨os, hw⟩ := hw
  exact wS_ok hR c hc A h os K (hw fun _ => .undef).it
end
end Go.VM
end
section
/- Regions that draw their order: what reads may come behind the one effect, where that changes nothing for it; calls of known functions by value. -/
namespace Go.VM
set_option linter.unusedSectionVars false
variable [Inhabited Globs]
section
variable {P : Program} {G : Ghost} {w : World}
def callN (M : FuncId → Bool) : Op → Bool
  | .call { callee := .value (.func i), .. } => M i
  | _ => false
def valCall : Op → Bool
  | .call { callee := .value (.func _), .. } => false
  | .call { callee := .value _, .. } => true
  | _ => false
def quietV (M : FuncId → Bool) (o : Op) : Bool := quietKind o && !callN M o
def effV (M : FuncId → Bool) (o : Op) : Bool := !quietV M o && !allocKind o
def readsV (M : FuncId → Bool) (o : Op) : Bool := readsH o && !effV M o
theorem quietV_not_eff {M : FuncId → Bool} {o : Op} (h : quietV M o = true) : effV M o = false := by simp [effV, h]
theorem quiet_formV {M : FuncId → Bool} {S : Summ} {p : Pures} {β : Base} {o : Oper} {A : List AV} (hp : PureBut S M p) (hq : quietV M o.op = true)
    (hv : ∀ x args ts, o.op = .call { callee := .value x, args := args, argTypes := ts } → valCall o.op = true → ∃ g, aev A x = .fn (.func g) [] [] ∧ M g = false) :
    ∃ f : H → Option AV, (∀ h, aop P S β o A h = (f h).map fun v => (v, h)) ∧ (readsH o.op = false → ∀ h h2, f h = f h2) ∧ (∀ h zs v, f h = some v → f { h with blk := h.blk ++ zs } = some v) := by
  by_cases hcv : valCall o.op = true
  · obtain ⟨x, args, ts, hop⟩ : ∃ x args ts, o.op = .call { callee := .value x, args := args, argTypes := ts } := by
      cases hop : o.op <;> simp only [hop, valCall, Bool.false_eq_true] at hcv
      rename_i c
      obtain ⟨callee, args, ts⟩ := c
      cases callee with
      | value f => exact ⟨f, args, ts, rfl⟩
      | invoke r m => simp at hcv
      | builtin b => simp at hcv
    obtain ⟨g, h1, h2⟩ := hv x args ts hop hcv
    obtain ⟨f, h3, h4⟩ := hp g h2 (args.toList.map (aev A))
    refine ⟨f, fun h => ?_, fun e => by simp [hop, readsH] at e, h4⟩
    simp only [aop, hop, aCall, h1, List.nil_append, List.append_nil]
    exact h3 h
  · refine quiet_formM (P := P) hp (β := β) (A := A) ?_
    simp only [quietV, Bool.and_eq_true, Bool.not_eq_true'] at hq
    simp only [quietM, Bool.and_eq_true, Bool.not_eq_true']
    refine ⟨hq.1, ?_⟩
    have h2 := hq.2
    cases hop : o.op <;> simp only [callIn]
    rename_i c
    obtain ⟨callee, args, ts⟩ := c
    cases callee with
    | value f => cases f <;> simp [hop, valCall, callN] at hcv h2 ⊢ <;> exact h2
    | invoke r m => simp
    | builtin b => simp
/-- it may come behind an effect -/
def freeV (M : FuncId → Bool) (ops : Array Oper) (i : Nat) : Bool := ops.toList.zipIdx.any fun (y, j) => effV M y.op && !isAnc (Region.before ops) i j
theorem not_free {M : FuncId → Bool} {ops : Array Oper} {i : Nat} (h : ¬ freeV M ops i = true) {j : Nat} {y : Oper} (hy : ops[j]? = some y) (he : effV M y.op = true) : isAnc (Region.before ops) i j = true := by
  refine Classical.byContradiction fun hc => h ?_
  simp only [freeV, List.any_eq_true]
  exact ⟨(y, j), by rw [List.mem_zipIdx_iff_getElem?]; simpa using hy, by simp [he, hc]⟩
/-- a region with one effect, whose every order comes to the order of the text -/
def simpleRegionV (M : FuncId → Bool) (ops : Array Oper) : Bool :=
  let b := Region.before ops
  let l := ops.toList.zipIdx
  l.all fun (y, j) =>
    ((y.after.toList.all fun e => !Region.binds .any e || decide (e.on < j)) && (quietV M y.op || allocKind y.op || effV M y.op) && (!readsV M y.op || y.dst.isSome)) &&
    l.all fun (x, i) =>
      (!decide (i < j) || !hazard ops x y || isAnc b i j) &&
      (!effV M y.op || !(readsV M x.op || allocKind x.op) || decide (i < j)) &&
      (!effV M y.op || !allocKind x.op || isAnc b i j) &&
      (!(effV M x.op && effV M y.op) || decide (i = j)) &&
      (!decide (i ≤ j) || !readsV M x.op || y.dst.all fun d => !(x.looksAt ops).contains d) &&
      (!decide (i < j) || !readsV M x.op || y.dst.all fun d => !(x.dst == some d))
structure SimpleV (M : FuncId → Bool) (ops : Array Oper) : Prop where
  edge : ∀ (j : Nat) (y : Oper), ops[j]? = some y → ∀ e ∈ y.after, Region.binds .any e = true → e.on < j
  kind : ∀ (j : Nat) (y : Oper), ops[j]? = some y → quietV M y.op = true ∨ allocKind y.op = true ∨ effV M y.op = true
  dst : ∀ (j : Nat) (y : Oper), ops[j]? = some y → readsV M y.op = true → y.dst = none → False
  slot : ∀ (i j : Nat) (x y : Oper), ops[i]? = some x → ops[j]? = some y → i < j → hazard ops x y = true → isAnc (Region.before ops) i j = true
  read : ∀ (i j : Nat) (x y : Oper), ops[i]? = some x → ops[j]? = some y → effV M y.op = true → (readsV M x.op = true ∨ allocKind x.op = true) → i < j
  alloc : ∀ (i j : Nat) (x y : Oper), ops[i]? = some x → ops[j]? = some y → effV M y.op = true → allocKind x.op = true → isAnc (Region.before ops) i j = true
  eff : ∀ (i j : Nat) (x y : Oper), ops[i]? = some x → ops[j]? = some y → effV M x.op = true → effV M y.op = true → i = j
  ssa : ∀ (i j : Nat) (x y : Oper), ops[i]? = some x → ops[j]? = some y → i ≤ j → readsV M x.op = true → ∀ d, y.dst = some d → d ∈ x.looksAt ops → False
  ssd : ∀ (i j : Nat) (x y : Oper), ops[i]? = some x → ops[j]? = some y → i < j → readsV M x.op = true → ∀ d, x.dst = some d → y.dst = some d → False
theorem simpleV_of {M : FuncId → Bool} {ops : Array Oper} (h : simpleRegionV M ops = true) : SimpleV M ops := by
  unfold simpleRegionV at h
  have mem : ∀ {j : Nat} {y : Oper}, ops[j]? = some y → (y, j) ∈ ops.toList.zipIdx := fun {j y} hy => by
    rw [List.mem_zipIdx_iff_getElem?]; simpa using hy
  have one : ∀ {j : Nat} {y : Oper}, ops[j]? = some y → _ := fun {j y} hy => List.all_eq_true.1 h (y, j) (mem hy)
  have two : ∀ {i j : Nat} {x y : Oper}, ops[i]? = some x → ops[j]? = some y → _ := fun {i j x y} hx hy => by
    have := one hy
    simp only [Bool.and_eq_true] at this
    have q := List.all_eq_true.1 this.2 (x, i) (mem hx)
    simp only [Bool.and_eq_true] at q
    exact q
  refine ⟨fun j y hy e he hb => ?_, fun j y hy => ?_, fun j y hy hr hd => ?_, fun i j x y hx hy hij hz => ?_, fun i j x y hx hy he hr => ?_, fun i j x y hx hy he hr => ?_, fun i j x y hx hy h1 h2 => ?_, fun i j x y hx hy hij hr d hd hm => ?_, fun i j x y hx hy hij hr d hd hm => ?_⟩
  · have := one hy
    simp only [Bool.and_eq_true] at this
    have := List.all_eq_true.1 this.1.1.1 e (by simpa using he)
    simpa [hb] using this
  · have := one hy
    simp only [Bool.and_eq_true, Bool.or_eq_true] at this
    rcases this.1.1.2 with (q | q) | q
    · exact .inl q
    · exact .inr (.inl q)
    · exact .inr (.inr q)
  · have := one hy
    simp only [Bool.and_eq_true] at this
    have q := this.1.2
    simp [hr, hd] at q
  · have q := two hx hy
    simpa [hij, hz] using q.1.1.1.1.1
  · have q := two hx hy
    have q2 := q.1.1.1.1.2
    rcases hr with hr | hr
    · simpa [he, hr] using q2
    · simpa [he, hr] using q2
  · have q := two hx hy
    simpa [he, hr] using q.1.1.1.2
  · have q := two hx hy
    simpa [h1, h2] using q.1.1.2
  · have q := two hx hy
    have q2 := q.1.2
    simp [hij, hr, hd] at q2
    exact q2 hm
  · have q := two hx hy
    have q2 := q.2
    simp [hij, hr, hd, hm] at q2
set_option maxHeartbeats 2000000 in
theorem drawV_any {M : FuncId → Bool} {S : Summ} {p : Pures} (hm : P.follows .mixedOrders = true) (hS : SummOk P S) (hp : PureBut S M p) {β : Base} {ops : Array Oper} (hsim : simpleRegionV M ops = true) {A : List AV} {h : H} {A' : List AV} {h' : H} (hr : arun P (S) β ops ops.toList A h = some (A', h'))
    (hV : ∀ (i : Nat) (o : Oper) (x : Operand) (args : Array Operand) (ts : Array TypeId), ops[i]? = some o → o.op = .call { callee := .value x, args := args, argTypes := ts } → valCall o.op = true → awant ops A' o = some true → ∃ g, aev A' x = .fn (.func g) [] [] ∧ M g = false)
    (hcom : ∀ (i : Nat) (o : Oper), ops[i]? = some o → readsV M o.op = true → freeV M ops i = true → awant ops A' o = some true → ∃ v, aop P S β o A' h' = some (v, h') ∧ ∀ d, o.dst = some d → A'[d]? = some v)
    {a : Act} (s : SRel G h w) (hβ : ∀ γ ∈ G.bases, γ.1 ≤ β.nb) (r : ARel G A a) {Q : Exit → Act → World → Prop} (hQ : ∀ G' a' w', Step G h w G' h' w' → SRel G' h' w' → ARel G' A' a' → Q .normal a' w') : wpAny P .any ops Q ops.size (Array.replicate ops.size false) a { w with drawn := w.drawn + 1 } := by
  have sim := simpleV_of hsim
  obtain ⟨As, hs, vs, t1, t2, t3, t4, t5⟩ := arun_trace _ _ _ _ _ hr
  have tr : Trace P (S) β ops A h A' h' As hs vs := ⟨t1, t2, by simpa using t3, by simpa using t4, fun i o ho => t5 i o (by simpa using ho)⟩
  obtain ⟨f, f1, f2, f3⟩ := first_effM (effV M) ops ops.size (Nat.le_refl _)
  have size_of : ∀ {i : Nat} {o : Oper}, ops[i]? = some o → i < ops.size := fun ho => (Array.getElem?_eq_some_iff.1 ho).1
  -- what is read stays to the end
  have hfin : ∀ (i : Nat) (o : Oper), ops[i]? = some o → readsV M o.op = true → ∀ t, t ∈ o.looksAt ops → (As i)[t]? = A'[t]? := fun i o ho hk t ht => by
    have key : ∀ k, i ≤ k → k ≤ ops.size → (As k)[t]? = (As i)[t]? := by
      intro k
      induction k with
      | zero => intro h1 _; have : i = 0 := by omega
                subst this; rfl
      | succ k ih =>
        intro h1 h2
        by_cases e : i = k + 1
        · rw [e]
        · have hok : ops[k]? = some ops[k] := by simp [show k < ops.size by omega]
          rw [(tr.step k _ hok).1, putA_get, if_neg, ih (by omega) (by omega)]
          rintro ⟨hd, _⟩
          exact sim.ssa i k o _ ho hok (by omega) hk t hd ht
    rw [← tr.an, key ops.size (by have := size_of ho; omega) (Nat.le_refl _)]
  have hdst : ∀ (i : Nat) (o : Oper) (d : Nat), ops[i]? = some o → readsV M o.op = true → o.dst = some d → ∀ v, A'[d]? = some v → v = vs i := fun i o d ho hk hd v hv => by
    have key : ∀ k, i + 1 ≤ k → k ≤ ops.size → (As k)[d]? = (As (i + 1))[d]? := by
      intro k
      induction k with
      | zero => intro h1 _; omega
      | succ k ih =>
        intro h1 h2
        by_cases e : i = k
        · rw [e]
        · have hok : ops[k]? = some ops[k] := by simp [show k < ops.size by omega]
          rw [(tr.step k _ hok).1, putA_get, if_neg, ih (by omega) (by omega)]
          rintro ⟨hd2, _⟩
          exact sim.ssd i k o _ ho hok (by omega) hk d hd hd2
    have h1 := key ops.size (by have := size_of ho; omega) (Nat.le_refl _)
    rw [tr.an, hv, (tr.step i o ho).1, putA_get] at h1
    have hlt : d < (As i).length := by
      refine Classical.byContradiction fun hc => ?_
      rw [if_neg (by rintro ⟨_, q⟩; exact hc q), List.getElem?_eq_none (by omega)] at h1
      cases h1
    rw [if_pos ⟨hd, hlt⟩] at h1
    exact Option.some.inj h1
  have hfev : ∀ (i : Nat) (o : Oper), ops[i]? = some o → readsV M o.op = true → ∀ x ∈ o.op.operands, aev A' x = aev (As i) x := fun i o ho hk x hx => aev_of_slots (fun t ht => by
    subst ht
    refine (hfin i o ho hk t ?_).symm
    simp only [Oper.looksAt, List.mem_append, List.mem_filterMap]
    exact .inl ⟨.tmp t, by simpa using hx, rfl⟩)
  have hfwant : ∀ (i : Nat) (o : Oper), ops[i]? = some o → readsV M o.op = true → awant ops A' o = awant ops (As i) o := fun i o ho hk => by
    unfold awant
    split
    · rfl
    · rename_i g want hg
      cases hd : (ops[g]?).bind (·.dst) with
      | none => rfl
      | some d =>
        simp only
        rw [hfin i o ho hk d (by simp [Oper.looksAt, hg, hd])]
  have hVc : ∀ (i : Nat) (o : Oper), ops[i]? = some o → quietV M o.op = true → awant ops (As i) o = some true → ∀ x args ts, o.op = .call { callee := .value x, args := args, argTypes := ts } → valCall o.op = true → ∃ g, aev (As i) x = .fn (.func g) [] [] ∧ M g = false := fun i o ho hq hw x args ts hop hv => by
    have hk : readsV M o.op = true := by rw [readsV, quietV_not_eff hq, hop]; rfl
    obtain ⟨g, h1, h2⟩ := hV i o x args ts ho hop hv (by rw [hfwant i o ho hk]; exact hw)
    refine ⟨g, ?_, h2⟩
    rw [← hfev i o ho hk x (by rw [hop]; simp [Op.operands, Call.operands])]
    exact h1
  -- what each kind does in the text's order
  have hquiet : ∀ j o, ops[j]? = some o → quietV M o.op = true → hs (j + 1) = hs j := fun j o ho hk => by
    rcases (tr.step j o ho).2 with ⟨hw0, h2⟩ | ⟨_, _, h2⟩
    · obtain ⟨g, hg, _⟩ := quiet_formV (P := P) hp (β := β) (A := As j) hk (hVc j o ho hk hw0)
      rw [hg, Option.map_eq_some_iff] at h2
      obtain ⟨_, _, h2⟩ := h2
      simp only [Prod.mk.injEq] at h2; exact h2.2.symm
    · exact h2
  have halloc : ∀ j o e, ops[j]? = some o → o.op = .alloc e → awant ops (As j) o = some true → ∃ z, zeroCs P e = some z ∧ vs j = .ptr (hs j).blk.length 0 ∧ hs (j + 1) = { hs j with blk := (hs j).blk ++ [z] } := fun j o e ho hk hw => by
    rcases (tr.step j o ho).2 with ⟨_, h2⟩ | ⟨h2, _⟩
    · simp only [aop, hk, Option.map_eq_some_iff] at h2
      obtain ⟨z, hz, h2⟩ := h2
      simp only [Prod.mk.injEq] at h2
      exact ⟨z, hz, h2.1.symm, h2.2.symm⟩
    · rw [hw] at h2; cases h2
  have before_f : ∀ i o, ops[i]? = some o → (readsV M o.op = true ∨ allocKind o.op = true) → i < f := fun i o ho hk => by
    by_cases hf : f < ops.size
    · obtain ⟨o', ho', he⟩ := f3 hf
      exact sim.read i f o o' ho ho' he hk
    · have := size_of ho; omega
  have hstay : ∀ j o, f ≤ j → ops[j]? = some o → effV M o.op = false → hs (j + 1) = hs j := fun j o hj ho he => by
    rcases sim.kind j o ho with hk | hk | hk
    · exact hquiet j o ho hk
    · have := before_f j o ho (.inr hk); omega
    · rw [he] at hk; cases hk
  have hstep : ∀ j, j < f → ∃ zs, hs (j + 1) = { hs j with blk := (hs j).blk ++ zs } := fun j hj => by
    have ho : ops[j]? = some ops[j] := by simp [show j < ops.size by omega]
    rcases sim.kind j _ ho with hk | hk | hk
    · exact ⟨[], by rw [hquiet j _ ho hk]; simp⟩
    · cases hop : ops[j].op <;> rw [hop] at hk <;> simp only [allocKind, Bool.false_eq_true] at hk
      rcases (tr.step j _ ho).2 with ⟨h1, _⟩ | ⟨_, _, h1⟩
      · obtain ⟨z, _, _, hz⟩ := halloc j _ _ ho hop h1
        exact ⟨[z], hz⟩
      · exact ⟨[], by rw [h1]; simp⟩
    · rw [f2 j _ hj ho] at hk; cases hk
  have hprefix : ∀ d k, k + d = f → ∃ zs, hs f = { hs k with blk := (hs k).blk ++ zs } := by
    intro d
    induction d with
    | zero => intro k hk; have : k = f := by omega
              subst this; exact ⟨[], by simp⟩
    | succ d ih =>
      intro k hk
      obtain ⟨zs, hz⟩ := ih (k + 1) (by omega)
      obtain ⟨ys, hy⟩ := hstep k (by omega)
      exact ⟨ys ++ zs, by rw [hz, hy]; simp⟩
  have hpre : ∀ k, k ≤ f → ∃ zs, hs f = { hs k with blk := (hs k).blk ++ zs } := fun k hk => hprefix (f - k) k (by omega)
  obtain ⟨zs0, hzs0⟩ := hpre 0 (Nat.zero_le _)
  rw [tr.h0] at hzs0
  have hlenf : ∀ k, k ≤ f → (hs k).blk.length ≤ (hs f).blk.length := fun k hk => by
    obtain ⟨zs, hz⟩ := hpre k hk
    rw [hz]; simp
  have hlen0 : ∀ d k, k + d ≤ f → (hs k).blk.length ≤ (hs (k + d)).blk.length := by
    intro d
    induction d with
    | zero => intro k _; exact Nat.le_refl _
    | succ d ih =>
      intro k hk
      obtain ⟨ys, hy⟩ := hstep (k + d) (by omega)
      have := ih k (by omega)
      rw [show k + (d + 1) = k + d + 1 by omega, hy]; simp; omega
  have hlens : ∀ j k, j ≤ k → k ≤ f → (hs j).blk.length ≤ (hs k).blk.length := fun j k hj hk => by
    have := hlen0 (k - j) j (by omega)
    rwa [show j + (k - j) = k by omega] at this
  -- the invariant
  let D : Array Bool → Nat → Bool := fun listed i => listed.getD i false
  have main : ∀ (fuel : Nat) (listed : Array Bool) (G1 : Ghost) (w1 : World) (a1 : Act), listed.size = ops.size → Closed ops (D listed) → SRel G1 (HDM (effV M) (hs f) ops hs (D listed) ops.size) w1 → Step G h w G1 (HDM (effV M) (hs f) ops hs (D listed) ops.size) w1 →
      ARel G1 (AD A ops vs (D listed) ops.size) a1 →
      (∀ j o, ops[j]? = some o → allocKind o.op = true → D listed j = false → awant ops (As j) o = some true → G1.φ (hs j).blk.length = none) → unlisted ops.size listed ≤ fuel → wpAny P .any ops Q fuel listed a1 w1 := by
    -- when all is done
    have done : ∀ (listed : Array Bool) (G1 : Ghost) (w1 : World) (a1 : Act), (∀ i, i < ops.size → D listed i = true) → SRel G1 (HDM (effV M) (hs f) ops hs (D listed) ops.size) w1 → Step G h w G1 (HDM (effV M) (hs f) ops hs (D listed) ops.size) w1 →
        ARel G1 (AD A ops vs (D listed) ops.size) a1 → Q .normal a1 w1 := fun listed G1 w1 a1 hall s1 st1 r1 => by
      have e1 : HDM (effV M) (hs f) ops hs (D listed) ops.size = h' := by
        rw [HDM_same (E := fun j => decide (j < ops.size)) ops.size (fun j o hj _ _ => by simp [hall j hj, hj]), HDM_text rfl f2 hstay (fun _ _ => trivial) ops.size f1 (Nat.le_refl _) (Nat.le_refl _), tr.hn]
      have e2 : AD A ops vs (D listed) ops.size = A' := by
        rw [← tr.an, show As ops.size = As (min ops.size ops.size) by simp, ← AD_text tr (Nat.le_refl _) ops.size (Nat.le_refl _)]
        apply List.ext_getElem?
        intro t
        exact AD_same ops.size (fun j hj _ => by simp [hall j hj, hj])
      rw [e1] at s1 st1
      rw [e2] at r1
      exact hQ G1 a1 w1 st1 s1 r1
    have ready_all : ∀ (listed : Array Bool), listed.size = ops.size → Region.ready .any ops listed = [] → ∀ i, i < ops.size → D listed i = true := fun listed hsz hnil i => by
      induction i using Nat.strongRecOn with
      | _ i ih =>
        intro hi
        cases hd : D listed i
        · have : i ∈ Region.ready .any ops listed := by
            rw [mem_ready]
            refine ⟨?_, ops[i], by simp [hi], fun e he hb => ?_⟩
            · have hi' : i < listed.size := by omega
              simp only [D, Array.getD_eq_getD_getElem?, Array.getElem?_eq_getElem hi', Option.getD_some] at hd ⊢
              exact hd
            · have := sim.edge i ops[i] (by simp [hi]) e he hb
              exact ih e.on this (by omega)
          rw [hnil] at this; cases this
        · rfl
    intro fuel
    induction fuel with
    | zero =>
      intro listed G1 w1 a1 hsz hcl s1 st1 r1 hpn hfu
      have hall : ∀ i, i < ops.size → D listed i = true := fun i hi => by
        have h0 : ((List.range ops.size).filter fun i => !listed.getD i false) = [] := List.eq_nil_of_length_eq_zero (by unfold unlisted at hfu; omega)
        have := List.filter_eq_nil_iff.1 h0 i (by simpa using hi)
        simpa [D] using this
      refine ⟨?_, done listed G1 w1 a1 hall s1 st1 r1⟩
      apply List.eq_nil_iff_forall_not_mem.2
      intro j hj
      rw [mem_ready] at hj
      obtain ⟨h0, o, ho, _⟩ := hj
      have hlt : j < listed.size := by have := size_of ho; omega
      have := hall j (size_of ho)
      simp only [D, Array.getD_eq_getD_getElem?, Array.getElem?_eq_getElem hlt, Option.getD_some] at h0 this
      rw [h0] at this; cases this
    | succ fuel ih =>
      intro listed G1 w1 a1 hsz hcl s1 st1 r1 hpn hfu
      refine ⟨fun hnil => done listed G1 w1 a1 (ready_all listed hsz hnil) s1 st1 r1, fun i hi => ?_⟩
      rw [mem_ready] at hi
      obtain ⟨h0, o, ho, hpre1⟩ := hi
      have hin := size_of ho
      have hlt : i < listed.size := by omega
      have hDi : D listed i = false := by
        simp only [Array.getD_eq_getD_getElem?, Array.getElem?_eq_getElem hlt, Option.getD_some] at h0
        simp only [D, Array.getD_eq_getD_getElem?, Array.getElem?_eq_getElem hlt, Option.getD_some]; exact h0
      have ancD : ∀ k, isAnc (Region.before ops) k i = true → D listed k = true := fun k hk => anc_closed hcl i i (Nat.le_refl _) k o ho hpre1 hk
      have notD : ∀ k ok, ops[k]? = some ok → isAnc (Region.before ops) i k = true → D listed k = false := fun k ok hok hk => by
        cases hd : D listed k
        · rfl
        · have := anc_in hcl hok hd hk
          rw [hDi] at this; cases this
      -- slots
      have hslot : ∀ t, t ∈ names ops o → ∀ j, j < ops.size → (ops[j]?).bind (·.dst) = some t → j ≠ i → D listed j = decide (j < i) := fun t ht j hj hdst hji => by
        have hoj : ops[j]? = some ops[j] := by simp [hj]
        rw [hoj] at hdst
        simp only [Option.bind_some] at hdst
        rcases Nat.lt_or_gt_of_ne hji with hlt' | hgt'
        · rw [ancD j (sim.slot j i _ o hoj ho hlt' (by simp [hazard, hdst, ht]))]; simp [hlt']
        · rw [notD j _ hoj (sim.slot i j o _ ho hoj hgt' (by simp [hazard, hdst, ht]))]; simp; omega
      have hread : ∀ t, t ∈ o.looksAt ops → (AD A ops vs (D listed) ops.size)[t]? = (As i)[t]? := fun t ht => by
        rw [AD_same (E := fun j => decide (j < i)) ops.size, AD_text tr (by omega) ops.size (Nat.le_refl _), show min ops.size i = i by omega]
        intro j hj hdst
        by_cases hji : j = i
        · subst hji; rw [hDi]; simp
        · exact hslot t (by simp [names, ht]) j hj hdst hji
      have hev : ∀ x ∈ o.op.operands, aev (AD A ops vs (D listed) ops.size) x = aev (As i) x := fun x hx => aev_of_slots (fun t ht => by
        subst ht
        refine hread t ?_
        simp only [Oper.looksAt, List.mem_append, List.mem_filterMap]
        exact .inl ⟨.tmp t, by simpa using hx, rfl⟩)
      have hwant : awant ops (AD A ops vs (D listed) ops.size) o = awant ops (As i) o := by
        unfold awant
        split
        · rfl
        · rename_i g want hg
          cases hd : (ops[g]?).bind (·.dst) with
          | none => rfl
          | some d =>
            simp only
            rw [hread d (by simp [Oper.looksAt, hg, hd])]
      -- the next state
      let listed' := listed.setIfInBounds i true
      have hD' : ∀ j, D listed' j = (decide (j = i) || D listed j) := fun j => by
        simp only [D, listed', Array.getD_eq_getD_getElem?, Array.getElem?_setIfInBounds]
        by_cases hji : i = j
        · subst hji; simp [hlt]
        · simp [hji, Ne.symm hji]
      have hsz' : listed'.size = ops.size := by simpa [listed'] using hsz
      have hcl' : Closed ops (D listed') := fun j oj hoj hj e he hb => by
        rw [hD'] at hj ⊢
        simp only [Bool.or_eq_true, decide_eq_true_eq] at hj ⊢
        rcases hj with rfl | hj
        · rw [ho] at hoj; cases hoj; exact .inr (hpre1 e he hb)
        · exact .inr (hcl j oj hoj hj e he hb)
      have hAs_len : (As i).length = A.length := by
        have := AD_text tr (i := i) (by omega) ops.size (Nat.le_refl _)
        rw [show min ops.size i = i by omega] at this
        rw [← this, AD_len]
      have hAD' : AD A ops vs (D listed') ops.size = putA (AD A ops vs (D listed) ops.size) o.dst (vs i) := by
        apply List.ext_getElem?
        intro t
        rw [putA_get, AD_len]
        by_cases hd : o.dst = some t
        · rw [AD_same (E := fun j => decide (j < i + 1)) ops.size, AD_text tr (i := i + 1) (by omega) ops.size (Nat.le_refl _), show min ops.size (i + 1) = i + 1 by omega, (tr.step i o ho).1, putA_get, hAs_len]
          · by_cases htl : t < A.length
            · simp [hd, htl]
            · simp only [htl, and_false, if_false]
              rw [List.getElem?_eq_none (by omega), List.getElem?_eq_none (by rw [AD_len]; omega)]
          · intro j hj hdst
            rw [hD']
            by_cases hji : j = i
            · subst hji; simp
            · rw [hslot t (by simp [names, hd]) j hj hdst hji]
              simp only [hji, decide_false, Bool.false_or]
              congr 1; simp only [eq_iff_iff]; omega
        · simp only [hd, false_and, if_false]
          refine AD_same ops.size (fun j hj hdst => ?_)
          rw [hD']
          have : j ≠ i := fun e => by subst e; rw [ho] at hdst; exact hd hdst
          simp [this]
      have hun : unlisted ops.size listed' ≤ fuel := by
        have : unlisted ops.size listed' < unlisted ops.size listed := by
          refine filter_lt (x := i) (by simpa using hin) ?_ ?_ ?_
          · have := hDi; simp only [D] at this; simp [this]
          · have := hD' i; simp only [D, decide_true, Bool.true_or] at this; simp [this]
          · intro y _ hy
            have := hD' y; simp only [D] at this
            rw [this] at hy
            simp only [Bool.not_or, Bool.and_eq_true] at hy
            exact hy.2
        omega
      -- heaps
      have hHD_not : effV M o.op = false → HDM (effV M) (hs f) ops hs (D listed') ops.size = HDM (effV M) (hs f) ops hs (D listed) ops.size := fun he => by
        refine HDM_same ops.size (fun j oj hj hoj hje => ?_)
        rw [hD']
        have : j ≠ i := fun e => by subst e; rw [ho] at hoj; cases hoj; rw [he] at hje; cases hje
        simp [this]
      have hHD_tail : ∀ m k, m ≤ k → k ≤ ops.size → HDM (effV M) (hs f) ops hs (fun j => decide (j < m)) k = HDM (effV M) (hs f) ops hs (fun j => decide (j < m)) m := by
        intro m k
        induction k with
        | zero => intro h1 _; have : m = 0 := by omega
                  subst this; rfl
        | succ k ihk =>
          intro h1 h2
          by_cases hmk : m = k + 1
          · subst hmk; rfl
          · simp only [HDM]
            rw [if_neg (by simp; omega), ihk (by omega) (by omega)]
      have hHD_eff : effV M o.op = true → HDM (effV M) (hs f) ops hs (D listed) ops.size = hs i ∧ HDM (effV M) (hs f) ops hs (D listed') ops.size = hs (i + 1) := fun he => by
        have hfi : f ≤ i := by
          rcases Nat.lt_or_ge i f with q | q
          · rw [f2 i o q ho] at he; cases he
          · exact q
        have hDk : ∀ j oj, j < ops.size → ops[j]? = some oj → effV M oj.op = true → j ≠ i → D listed j = decide (j < i) := fun j oj hj hoj hje hji => by
          exact absurd (sim.eff j i oj o hoj ho hje he) hji
        constructor
        · rw [HDM_same (E := fun j => decide (j < i)) ops.size, hHD_tail i ops.size (by omega) (Nat.le_refl _), HDM_text rfl f2 hstay (fun _ _ => trivial) i hfi (by omega) (Nat.le_refl _)]
          intro j oj hj hoj hje
          by_cases hji : j = i
          · subst hji; rw [hDi]; simp
          · exact hDk j oj hj hoj hje hji
        · rw [HDM_same (E := fun j => decide (j < i + 1)) ops.size, hHD_tail (i + 1) ops.size (by omega) (Nat.le_refl _), HDM_text rfl f2 hstay (fun _ _ => trivial) (i + 1) (by omega) (by omega) (Nat.le_refl _)]
          intro j oj hj hoj hje
          rw [hD']
          by_cases hji : j = i
          · subst hji; simp
          · rw [hDk j oj hj hoj hje hji]
            simp only [hji, decide_false, Bool.false_or]
            congr 1; simp only [eq_iff_iff]; omega
      have hHD_first : allocKind o.op = true → HDM (effV M) (hs f) ops hs (D listed) ops.size = hs f := fun hk => by
        refine HDM_none ops.size (fun j oj hj hoj hje => ?_)
        exact notD j oj hoj (sim.alloc i j o oj ho hoj hje hk)
      have hHD_read : readsV M o.op = true → HDM (effV M) (hs f) ops hs (D listed) ops.size = hs f ∨ (freeV M ops i = true ∧ HDM (effV M) (hs f) ops hs (D listed) ops.size = h') := fun hk => by
        by_cases hfr : freeV M ops i = true
        · by_cases hdf : ∃ (j : Nat) (oj : Oper), j < ops.size ∧ ops[j]? = some oj ∧ effV M oj.op = true ∧ D listed j = true
          · obtain ⟨j, oj, hj, hoj, hje, hdj⟩ := hdf
            refine .inr ⟨hfr, ?_⟩
            rw [← tr.hn, ← HDM_text (hA := hs f) (ek := effV M) (hs := hs) rfl f2 hstay (fun _ _ => trivial) (i := ops.size) ops.size f1 (Nat.le_refl _) (Nat.le_refl _)]
            refine HDM_same ops.size (fun k ok hk2 hok hke => ?_)
            have : k = j := sim.eff k j ok oj hok hoj hke hje
            subst this
            rw [hdj]; simp [hj]
          · refine .inl (HDM_none ops.size (fun j oj hj hoj hje => ?_))
            cases hd : D listed j
            · rfl
            · exact absurd ⟨j, oj, hj, hoj, hje, hd⟩ hdf
        · refine .inl (HDM_none ops.size (fun j oj hj hoj hje => ?_))
          exact notD j oj hoj (not_free hfr hoj hje)
      have hbases1 : ∀ γ ∈ G1.bases, γ.1 ≤ β.nb := by rw [st1.bases]; exact hβ
      have hpend : ∀ (G2 : Ghost) (w2 : World) (h2 : H), Step G1 (HDM (effV M) (hs f) ops hs (D listed) ops.size) w1 G2 h2 w2 → (∀ j oj, ops[j]? = some oj → allocKind oj.op = true → D listed' j = false → awant ops (As j) oj = some true → G2.φ (hs j).blk.length = none) := by
        intro G2 w2 h2 st2 j oj hoj hjk hj hjw
        rw [hD'] at hj
        simp only [Bool.or_eq_false_iff, decide_eq_false_iff_not] at hj
        have hn := hpn j oj hoj hjk hj.2 hjw
        cases hq : G2.φ (hs j).blk.length with
        | none => rfl
        | some c =>
          -- it lies below what the heap holds now, so it was known before
          have hjf := before_f j oj hoj (.inr hjk)
          have hnoeff : HDM (effV M) (hs f) ops hs (D listed) ops.size = hs f := HDM_none ops.size (fun k ok hk hok hke => by
            cases hd : D listed k
            · rfl
            · have := anc_in hcl hok hd (sim.alloc j k oj ok hoj hok hke hjk)
              rw [hj.2] at this; cases this)
          have hlt2 : (hs j).blk.length < (hs f).blk.length := by
            cases hop : oj.op <;> rw [hop] at hjk <;> simp only [allocKind, Bool.false_eq_true] at hjk
            obtain ⟨z, _, _, hz⟩ := halloc j oj _ hoj hop hjw
            have := hlens (j + 1) f (by omega) (Nat.le_refl _)
            rw [hz] at this; simp at this; omega
          have := st2.pend.1 _ c hq (by rw [hnoeff]; exact hlt2)
          rw [hn] at this; cases this
      show wpOp P ops Q i (wpAny P .any ops Q fuel listed') a1 w1
      unfold wpOp
      simp only [ho]
      rcases (tr.step i o ho).2 with ⟨hw, hop⟩ | ⟨hw, hv, hsame⟩
      · rw [awant_ok r1 (hwant.trans hw), if_pos rfl]
        left
        rcases sim.kind i o ho with hk | hk | hk
        · -- quiet
          have hneff : effV M o.op = false := quietV_not_eff hk
          have haop : aop P (S) β o (AD A ops vs (D listed) ops.size) (HDM (effV M) (hs f) ops hs (D listed) ops.size) = some (vs i, HDM (effV M) (hs f) ops hs (D listed) ops.size) := by
            rw [aop_congr hev]
            obtain ⟨g, hg1, hg2, hg3⟩ := quiet_formV (P := P) hp (β := β) (A := As i) hk (hVc i o ho hk hw)
            rw [hg1, Option.map_eq_some_iff] at hop
            obtain ⟨v, hv1, hv2⟩ := hop
            simp only [Prod.mk.injEq] at hv2
            rw [hg1]
            cases hrd : readsH o.op
            · rw [hg2 hrd _ (hs i), hv1, hv2.1]; rfl
            · have hrv : readsV M o.op = true := by simp [readsV, hrd, quietV_not_eff hk]
              rcases hHD_read hrv with hH | ⟨hfr, hH⟩
              · rw [hH]
                obtain ⟨zs, hz⟩ := hpre i (by have := before_f i o ho (.inl hrv); omega)
                rw [hz, hg3 _ zs v hv1, hv2.1]; rfl
              · rw [hH]
                obtain ⟨v', q1, q2⟩ := hcom i o ho hrv hfr (by rw [hfwant i o ho hrv]; exact hw)
                rw [aop_congr (hfev i o ho hrv), hg1] at q1
                rw [q1]
                cases hd : o.dst with
                | none => exact (sim.dst i o ho hrv hd).elim
                | some d => rw [hdst i o d ho hrv hd v' (q2 d hd)]
          refine aop_ok hS s1 hbases1 r1 haop (fun G2 w2 u st2 s2 hrel => ?_)
          refine ih listed' G2 w2 _ hsz' hcl' ?_ ?_ ?_ (hpend G2 w2 _ st2) hun
          · rw [hHD_not hneff]; exact s2
          · rw [hHD_not hneff]; exact st1.trans st2
          · rw [hAD']; exact put_rel (r1.mono st2.le) hrel o.dst
        · -- alloc
          cases hoo : o.op <;> rw [hoo] at hk <;> simp only [allocKind, Bool.false_eq_true] at hk
          rename_i e
          have hneff : effV M o.op = false := by rw [hoo]; rfl
          obtain ⟨z, hz, hvi, hsi⟩ := halloc i o e ho hoo hw
          have hif := before_f i o ho (.inr (by rw [hoo]; rfl))
          have hHf := hHD_first (by rw [hoo]; rfl)
          obtain ⟨inf, zv, hinf, hzv, hrun, hrel⟩ := run_zero (w := w1) hz
          have hblk : (hs f).blk[(hs i).blk.length]? = some z := by
            obtain ⟨zs, hzs⟩ := hpre (i + 1) (by omega)
            rw [hzs, hsi]; simp
          have hn := hpn i o ho (by rw [hoo]; rfl) hDi hw
          rw [hHf] at s1 st1
          have hbl : ∀ γ ∈ G1.bases, γ.1 ≤ (hs i).blk.length := fun γ hγ => by
            rw [st1.bases] at hγ
            have h1 := (s.bases γ hγ).1
            have h2 := hlens 0 i (Nat.zero_le _) (by omega)
            rw [tr.h0] at h2; omega
          obtain ⟨G2, hle2, s2, hφ2, hφo, hst⟩ := s1.allocPend hblk hn hbl e (hrel G1)
          have st2 := hst G h w st1 (by have := hlens 0 i (Nat.zero_le _) (by omega); rw [tr.h0] at this; exact this)
          have hex : (execOp a1.eval o).run P w1 = .ok (.value (.pointer (some ⟨w1.heap.size, 0, none⟩))) (w1.alloc (.cells zv.cells e)) := by
            simp [execOp, hoo, Instr.alloc, hrun, newVar, newRow]
          unfold Oper.wp
          rw [hex]
          refine ih listed' G2 _ _ hsz' hcl' ?_ ?_ ?_ ?_ hun
          · rw [hHD_not hneff, hHf]; exact s2
          · rw [hHD_not hneff, hHf]; exact st2
          · rw [hAD', hvi]; exact put_rel (r1.mono hle2) (by simp only [VRel]; exact ⟨_, hφ2, rfl⟩) o.dst
          · intro j oj hoj hjk hj hjw
            rw [hD'] at hj
            simp only [Bool.or_eq_false_iff, decide_eq_false_iff_not] at hj
            rw [hφo]
            · exact hpn j oj hoj hjk hj.2 hjw
            · have hjf := before_f j oj hoj (.inr hjk)
              cases hop2 : oj.op <;> rw [hop2] at hjk <;> simp only [allocKind, Bool.false_eq_true] at hjk
              obtain ⟨z2, _, _, hz2⟩ := halloc j oj _ hoj hop2 hjw
              rcases Nat.lt_or_gt_of_ne hj.1 with q | q
              · have := hlens (j + 1) i (by omega) (by omega)
                rw [hz2] at this; simp at this; omega
              · have := hlens (i + 1) j (by omega) (by omega)
                rw [hsi] at this; simp at this; omega
        · -- an effect
          obtain ⟨e1, e2⟩ := hHD_eff hk
          rw [e1] at s1 st1
          refine aop_ok hS s1 hbases1 r1 (by rw [aop_congr hev]; exact hop) (fun G2 w2 u st2 s2 hrel => ?_)
          refine ih listed' G2 w2 _ hsz' hcl' ?_ ?_ ?_ (hpend G2 w2 _ (by rw [e1]; exact st2)) hun
          · rw [e2]; exact s2
          · rw [e2]; exact st1.trans st2
          · rw [hAD']; exact put_rel (r1.mono st2.le) hrel o.dst
      · -- not wanted
        rw [awant_ok r1 (hwant.trans hw)]
        simp only [Bool.false_eq_true, if_false]
        have hsameHD : HDM (effV M) (hs f) ops hs (D listed') ops.size = HDM (effV M) (hs f) ops hs (D listed) ops.size := by
          by_cases he : effV M o.op = true
          · obtain ⟨e1, e2⟩ := hHD_eff he
            rw [e1, e2, hsame]
          · exact hHD_not (by simpa using he)
        refine ih listed' G1 w1 _ hsz' hcl' ?_ ?_ ?_ (hpend G1 w1 _ (.refl _ _ _)) hun
        · rw [hsameHD]; exact s1
        · rw [hsameHD]; exact st1
        · rw [hAD', hv]; exact put_rel r1 (undef_rel G1) o.dst
  have hD0 : ∀ j, D (Array.replicate ops.size false) j = false := fun j => by
    simp only [D, Array.getD_eq_getD_getElem?]
    by_cases hj : j < ops.size
    · simp [hj]
    · simp [hj]
  have hHD0 : HDM (effV M) (hs f) ops hs (D (Array.replicate ops.size false)) ops.size = hs f := HDM_none _ (fun j o _ _ _ => hD0 j)
  have hAD0 : ∀ k, AD A ops vs (D (Array.replicate ops.size false)) k = A := fun k => by
    induction k with
    | zero => rfl
    | succ k ihk => simp only [AD, hD0, Bool.false_eq_true, if_false, ihk]
  have s0 : SRel G (hs f) { w with drawn := w.drawn + 1 } := by rw [hzs0]; exact (s.pendBlocks zs0).drawn _
  have st0 : Step G h w G (hs f) { w with drawn := w.drawn + 1 } := by
    rw [hzs0]
    exact ⟨.refl G, rfl, rfl, rfl, Nat.le_refl _, fun _ _ _ => rfl, fun _ ho => .inl ho, rfl, ⟨fun _ _ h _ => h, by simp⟩, fun _ _ _ h => .inl h⟩
  refine main ops.size _ G _ a (by simp) (fun j o _ hj => by rw [hD0] at hj; cases hj) (by rw [hHD0]; exact s0) (by rw [hHD0]; exact st0) (by rw [hAD0]; exact r) ?_ ?_
  · intro j o hoj hk _ hw
    cases hq : G.φ (hs j).blk.length with
    | none => rfl
    | some c =>
      have h1 := s.dom.φ _ c hq
      have h2 := hlens 0 j (Nat.zero_le _) (by have := before_f j o hoj (.inr hk); omega)
      rw [tr.h0] at h2; omega
  · unfold unlisted
    have := List.length_filter_le (fun i => !(Array.replicate ops.size false).getD i false) (List.range ops.size)
    simpa using this

/-- a region that draws, read in the order of the text -/
theorem SemC.draw1 {E : Env} {M : FuncId → Bool} (hR : Rests E M) {lv : Prop} {c : Code} (hreg : c = .region (regId c) (regOps c) true) (hsim : simpleRegionV M (regOps c) = true) {A B : List AV} {h h2 : H}
    (hw : ∃ os, ∀ u : Nat → AV, Led (wS E c A h os (fun x A1 h1 _ => Keep (x = .normal ∧ A1 = B ∧ h1 = h2))))
    (hV : ∀ (i : Nat) (o : Oper) (x : Operand) (args : Array Operand) (ts : Array TypeId), (regOps c)[i]? = some o → o.op = .call { callee := .value x, args := args, argTypes := ts } → valCall o.op = true → awant (regOps c) B o = some true → ∃ g, aev B x = .fn (.func g) [] [] ∧ M g = false)
    (hcom : ∀ (i : Nat) (o : Oper), (regOps c)[i]? = some o → readsV M o.op = true → freeV M (regOps c) i = true → awant (regOps c) B o = some true → ∃ v, aop E.P E.S E.β o B h2 = some (v, h2) ∧ ∀ d, o.dst = some d → B[d]? = some v) :
    SemC E.P lv E.β c A h (fun x A' h' => x = .normal ∧ A' = B ∧ h' = h2) := by
  obtain ⟨os, hw⟩ := hw
  have hw := (hw fun _ => .undef).it
  generalize hi : regId c = id at hreg
  generalize ho : regOps c = ops at hreg hsim hV hcom ⊢
  subst hreg
  intro ro Ge he we en obs G w a t Q hQ
  simp only [wS] at hw
  obtain ⟨A', h', os', hea, _, rfl, rfl⟩ := runW_ok hw
  have hβ' : ∀ γ ∈ G.bases, γ.1 ≤ E.β.nb := by rw [t.st.bases]; exact en.bases
  let Q0 : Exit → Act → World → Prop := fun e a' w' => e = .normal ∧ ∃ G', Step G h w G' h' w' ∧ SRel G' h' w' ∧ ARel G' A' a'
  have q1 : ∀ e a' w', Q0 e a' w' → e = .normal := fun e a' w' hq => hq.1
  have q2 : ∀ a' w', Q0 .normal a' w' → a'.defers = [] := fun a' w' hq => by obtain ⟨_, _, _, _, r⟩ := hq; exact r.defers
  have q3 : ∀ a' w', Q0 .normal a' w' → Q .normal { a' with defers := a.defers } w' := fun a' w' hq => by
    obtain ⟨_, G', st, s, r⟩ := hq
    exact hQ .normal _ _ G' _ w' ⟨rfl, rfl, rfl⟩ (t.region st s r) fun _ => st.le
  obtain ⟨p, hp⟩ := hR.pure
  refine wpIn_region_any hR.mixed ?_
  have := drawV_any hR.mixed hR.summ hp hsim hea hV hcom t.s hβ' t.r (Q := Q0) (fun G' a' w' st' s' r' => ⟨rfl, G', st', s', r'⟩)
  exact any_in (a := Act.bare a) (ds := a.defers) q1 q2 q3 _ _ _ this
end
end Go.VM
end
section
/- Regions that draw their order, whose effects are calls that leave all blocks as they are: loads may come at any time. -/
namespace Go.VM
set_option linter.unusedSectionVars false
variable [Inhabited Globs]
section
variable {P : Program} {G : Ghost} {w : World}
def isLoad : Op → Bool
  | .load .. => true
  | _ => false
theorem callN_of {M : FuncId → Bool} {o : Op} (h : callN M o = true) : ∃ g args ts, o = .call { callee := .value (.func g), args := args, argTypes := ts } ∧ M g = true := by
  cases o <;> simp only [callN, Bool.false_eq_true] at h
  rename_i c
  obtain ⟨callee, args, ts⟩ := c
  cases callee with
  | value f => cases f <;> simp at h; exact ⟨_, args, ts, rfl, h⟩
  | invoke r m => simp at h
  | builtin b => simp at h
theorem quietM_not_call {M : FuncId → Bool} {o : Op} (h : quietM M o = true) : callN M o = false := by
  cases hq : callN M o
  · rfl
  · obtain ⟨g, args, ts, rfl, hg⟩ := callN_of hq
    simp [quietM, callIn, hg] at h
theorem load_blk {S : Summ} {β : Base} {o : Oper} {A : List AV} {h h2 : H} (hl : isLoad o.op = true) (hb : h.blk = h2.blk) : (aop P S β o A h).map (·.1) = (aop P S β o A h2).map (·.1) := by
  cases hop : o.op <;> simp only [hop, isLoad, Bool.false_eq_true] at hl
  rename_i t x
  have : h.target (aev A x) = h2.target (aev A x) := by
    cases aev A x <;> simp [H.target, hb]
  simp only [aop, hop, this]
  cases h2.target (aev A x) with
  | none => rfl
  | some cs => simp only [Option.map_map]; cases aLoad P t cs <;> rfl
/-- a region whose every order comes to the order of the text -/
def simpleRegionL (M : FuncId → Bool) (ops : Array Oper) : Bool :=
  let b := Region.before ops
  let l := ops.toList.zipIdx
  l.all fun (y, j) =>
    ((y.after.toList.all fun e => !Region.binds .any e || decide (e.on < j)) && (quietM M y.op || callN M y.op)) &&
    l.all fun (x, i) =>
      (!decide (i < j) || !hazard ops x y || isAnc b i j) &&
      (!callN M y.op || !readsQ M x.op || isLoad x.op || (isAnc b i j && decide (i < j)) || (isAnc b j i && decide (j < i))) &&
      (!decide (i < j) || !(callN M x.op && callN M y.op) || isAnc b i j)
structure SimpleL (M : FuncId → Bool) (ops : Array Oper) : Prop where
  edge : ∀ (j : Nat) (y : Oper), ops[j]? = some y → ∀ e ∈ y.after, Region.binds .any e = true → e.on < j
  kind : ∀ (j : Nat) (y : Oper), ops[j]? = some y → quietM M y.op = true ∨ callN M y.op = true
  slot : ∀ (i j : Nat) (x y : Oper), ops[i]? = some x → ops[j]? = some y → i < j → hazard ops x y = true → isAnc (Region.before ops) i j = true
  read : ∀ (i j : Nat) (x y : Oper), ops[i]? = some x → ops[j]? = some y → callN M y.op = true → readsQ M x.op = true → isLoad x.op = false → (isAnc (Region.before ops) i j = true ∧ i < j) ∨ (isAnc (Region.before ops) j i = true ∧ j < i)
  eff : ∀ (i j : Nat) (x y : Oper), ops[i]? = some x → ops[j]? = some y → i < j → callN M x.op = true → callN M y.op = true → isAnc (Region.before ops) i j = true
theorem simpleL_of {M : FuncId → Bool} {ops : Array Oper} (h : simpleRegionL M ops = true) : SimpleL M ops := by
  unfold simpleRegionL at h
  have mem : ∀ {j : Nat} {y : Oper}, ops[j]? = some y → (y, j) ∈ ops.toList.zipIdx := fun {j y} hy => by
    rw [List.mem_zipIdx_iff_getElem?]; simpa using hy
  have one : ∀ {j : Nat} {y : Oper}, ops[j]? = some y → _ := fun {j y} hy => List.all_eq_true.1 h (y, j) (mem hy)
  have two : ∀ {i j : Nat} {x y : Oper}, ops[i]? = some x → ops[j]? = some y → _ := fun {i j x y} hx hy => by
    have := one hy
    simp only [Bool.and_eq_true] at this
    have q := List.all_eq_true.1 this.2 (x, i) (mem hx)
    simp only [Bool.and_eq_true] at q
    exact q
  refine ⟨fun j y hy e he hb => ?_, fun j y hy => ?_, fun i j x y hx hy hij hz => ?_, fun i j x y hx hy he hr hl => ?_, fun i j x y hx hy hij h1 h2 => ?_⟩
  · have := one hy
    simp only [Bool.and_eq_true] at this
    have := List.all_eq_true.1 this.1.1 e (by simpa using he)
    simpa [hb] using this
  · have := one hy
    simp only [Bool.and_eq_true, Bool.or_eq_true] at this
    exact this.1.2
  · have q := two hx hy
    simpa [hij, hz] using q.1.1
  · have q := two hx hy
    simpa [he, hr, hl] using q.1.2
  · have q := two hx hy
    simpa [hij, h1, h2] using q.2
set_option maxHeartbeats 2000000 in
theorem drawL_any {M : FuncId → Bool} {S : Summ} {p : Pures} (hm : P.follows .mixedOrders = true) (hS : SummOk P S) (hp : PureBut S M p) {β : Base} {ops : Array Oper} (hk : ∀ g, M g = true → ∀ args h v h', S g args h = some (v, h') → h'.blk = h.blk) (hsim : simpleRegionL M ops = true) {A : List AV} {h : H} {A' : List AV} {h' : H} (hr : arun P (S) β ops ops.toList A h = some (A', h'))
    {a : Act} (s : SRel G h w) (hβ : ∀ γ ∈ G.bases, γ.1 ≤ β.nb) (r : ARel G A a) {Q : Exit → Act → World → Prop} (hQ : ∀ G' a' w', Step G h w G' h' w' → SRel G' h' w' → ARel G' A' a' → Q .normal a' w') : wpAny P .any ops Q ops.size (Array.replicate ops.size false) a { w with drawn := w.drawn + 1 } := by
  have sim := simpleL_of hsim
  obtain ⟨As, hs, vs, t1, t2, t3, t4, t5⟩ := arun_trace _ _ _ _ _ hr
  have tr : Trace P (S) β ops A h A' h' As hs vs := ⟨t1, t2, by simpa using t3, by simpa using t4, fun i o ho => t5 i o (by simpa using ho)⟩
  have size_of : ∀ {i : Nat} {o : Oper}, ops[i]? = some o → i < ops.size := fun ho => (Array.getElem?_eq_some_iff.1 ho).1
  -- what each kind does in the text's order
  have hquiet : ∀ j o, ops[j]? = some o → quietM M o.op = true → hs (j + 1) = hs j := fun j o ho hk => by
    rcases (tr.step j o ho).2 with ⟨_, h2⟩ | ⟨_, _, h2⟩
    · obtain ⟨g, hg, _⟩ := quiet_formM (P := P) hp (β := β) (A := As j) hk
      rw [hg, Option.map_eq_some_iff] at h2
      obtain ⟨_, _, h2⟩ := h2
      simp only [Prod.mk.injEq] at h2; exact h2.2.symm
    · exact h2
  have hstay : ∀ j o, 0 ≤ j → ops[j]? = some o → callN M o.op = false → hs (j + 1) = hs j := fun j o _ ho he => by
    rcases sim.kind j o ho with hk | hk
    · exact hquiet j o ho hk
    · rw [he] at hk; cases hk
  have hblk1 : ∀ j o, ops[j]? = some o → (hs (j + 1)).blk = (hs j).blk := fun j o ho => by
    rcases sim.kind j o ho with hq | hq
    · rw [hquiet j o ho hq]
    · rcases (tr.step j o ho).2 with ⟨_, h2⟩ | ⟨_, _, h2⟩
      · obtain ⟨g, args, ts, hop, hg⟩ := callN_of hq
        simp only [aop, hop, aCall, aev, List.nil_append, List.append_nil] at h2
        exact hk g hg _ _ _ _ h2
      · rw [h2]
  have hblk : ∀ k, k ≤ ops.size → (hs k).blk = h.blk := by
    intro k
    induction k with
    | zero => intro _; rw [tr.h0]
    | succ k ih => intro h1; rw [hblk1 k ops[k] (by simp [show k < ops.size by omega]), ih (by omega)]
  have hHblk : ∀ (D : Nat → Bool) k, k ≤ ops.size → (HDM (callN M) h ops hs D k).blk = h.blk := by
    intro D k
    induction k with
    | zero => intro _; rfl
    | succ k ih =>
      intro h1
      simp only [HDM]
      split
      · exact hblk (k + 1) h1
      · exact ih (by omega)
  -- the invariant
  let D : Array Bool → Nat → Bool := fun listed i => listed.getD i false
  have main : ∀ (fuel : Nat) (listed : Array Bool) (G1 : Ghost) (w1 : World) (a1 : Act), listed.size = ops.size → Closed ops (D listed) → SRel G1 (HDM (callN M) h ops hs (D listed) ops.size) w1 → Step G h w G1 (HDM (callN M) h ops hs (D listed) ops.size) w1 →
      ARel G1 (AD A ops vs (D listed) ops.size) a1 →
      unlisted ops.size listed ≤ fuel → wpAny P .any ops Q fuel listed a1 w1 := by
    -- when all is done
    have done : ∀ (listed : Array Bool) (G1 : Ghost) (w1 : World) (a1 : Act), (∀ i, i < ops.size → D listed i = true) → SRel G1 (HDM (callN M) h ops hs (D listed) ops.size) w1 → Step G h w G1 (HDM (callN M) h ops hs (D listed) ops.size) w1 →
        ARel G1 (AD A ops vs (D listed) ops.size) a1 → Q .normal a1 w1 := fun listed G1 w1 a1 hall s1 st1 r1 => by
      have e1 : HDM (callN M) h ops hs (D listed) ops.size = h' := by
        rw [HDM_same (E := fun j => decide (j < ops.size)) ops.size (fun j o hj _ _ => by simp [hall j hj, hj]), HDM_text tr.h0.symm (fun _ _ hj => absurd hj (Nat.not_lt_zero _)) hstay (fun _ _ => trivial) ops.size (Nat.zero_le _) (Nat.le_refl _) (Nat.le_refl _), tr.hn]
      have e2 : AD A ops vs (D listed) ops.size = A' := by
        rw [← tr.an, show As ops.size = As (min ops.size ops.size) by simp, ← AD_text tr (Nat.le_refl _) ops.size (Nat.le_refl _)]
        apply List.ext_getElem?
        intro t
        exact AD_same ops.size (fun j hj _ => by simp [hall j hj, hj])
      rw [e1] at s1 st1
      rw [e2] at r1
      exact hQ G1 a1 w1 st1 s1 r1
    have ready_all : ∀ (listed : Array Bool), listed.size = ops.size → Region.ready .any ops listed = [] → ∀ i, i < ops.size → D listed i = true := fun listed hsz hnil i => by
      induction i using Nat.strongRecOn with
      | _ i ih =>
        intro hi
        cases hd : D listed i
        · have : i ∈ Region.ready .any ops listed := by
            rw [mem_ready]
            refine ⟨?_, ops[i], by simp [hi], fun e he hb => ?_⟩
            · have hi' : i < listed.size := by omega
              simp only [D, Array.getD_eq_getD_getElem?, Array.getElem?_eq_getElem hi', Option.getD_some] at hd ⊢
              exact hd
            · have := sim.edge i ops[i] (by simp [hi]) e he hb
              exact ih e.on this (by omega)
          rw [hnil] at this; cases this
        · rfl
    intro fuel
    induction fuel with
    | zero =>
      intro listed G1 w1 a1 hsz hcl s1 st1 r1 hfu
      have hall : ∀ i, i < ops.size → D listed i = true := fun i hi => by
        have h0 : ((List.range ops.size).filter fun i => !listed.getD i false) = [] := List.eq_nil_of_length_eq_zero (by unfold unlisted at hfu; omega)
        have := List.filter_eq_nil_iff.1 h0 i (by simpa using hi)
        simpa [D] using this
      refine ⟨?_, done listed G1 w1 a1 hall s1 st1 r1⟩
      apply List.eq_nil_iff_forall_not_mem.2
      intro j hj
      rw [mem_ready] at hj
      obtain ⟨h0, o, ho, _⟩ := hj
      have hlt : j < listed.size := by have := size_of ho; omega
      have := hall j (size_of ho)
      simp only [D, Array.getD_eq_getD_getElem?, Array.getElem?_eq_getElem hlt, Option.getD_some] at h0 this
      rw [h0] at this; cases this
    | succ fuel ih =>
      intro listed G1 w1 a1 hsz hcl s1 st1 r1 hfu
      refine ⟨fun hnil => done listed G1 w1 a1 (ready_all listed hsz hnil) s1 st1 r1, fun i hi => ?_⟩
      rw [mem_ready] at hi
      obtain ⟨h0, o, ho, hpre1⟩ := hi
      have hin := size_of ho
      have hlt : i < listed.size := by omega
      have hDi : D listed i = false := by
        simp only [Array.getD_eq_getD_getElem?, Array.getElem?_eq_getElem hlt, Option.getD_some] at h0
        simp only [D, Array.getD_eq_getD_getElem?, Array.getElem?_eq_getElem hlt, Option.getD_some]; exact h0
      have ancD : ∀ k, isAnc (Region.before ops) k i = true → D listed k = true := fun k hk => anc_closed hcl i i (Nat.le_refl _) k o ho hpre1 hk
      have notD : ∀ k ok, ops[k]? = some ok → isAnc (Region.before ops) i k = true → D listed k = false := fun k ok hok hk => by
        cases hd : D listed k
        · rfl
        · have := anc_in hcl hok hd hk
          rw [hDi] at this; cases this
      -- slots
      have hslot : ∀ t, t ∈ names ops o → ∀ j, j < ops.size → (ops[j]?).bind (·.dst) = some t → j ≠ i → D listed j = decide (j < i) := fun t ht j hj hdst hji => by
        have hoj : ops[j]? = some ops[j] := by simp [hj]
        rw [hoj] at hdst
        simp only [Option.bind_some] at hdst
        rcases Nat.lt_or_gt_of_ne hji with hlt' | hgt'
        · rw [ancD j (sim.slot j i _ o hoj ho hlt' (by simp [hazard, hdst, ht]))]; simp [hlt']
        · rw [notD j _ hoj (sim.slot i j o _ ho hoj hgt' (by simp [hazard, hdst, ht]))]; simp; omega
      have hread : ∀ t, t ∈ o.looksAt ops → (AD A ops vs (D listed) ops.size)[t]? = (As i)[t]? := fun t ht => by
        rw [AD_same (E := fun j => decide (j < i)) ops.size, AD_text tr (by omega) ops.size (Nat.le_refl _), show min ops.size i = i by omega]
        intro j hj hdst
        by_cases hji : j = i
        · subst hji; rw [hDi]; simp
        · exact hslot t (by simp [names, ht]) j hj hdst hji
      have hev : ∀ x ∈ o.op.operands, aev (AD A ops vs (D listed) ops.size) x = aev (As i) x := fun x hx => aev_of_slots (fun t ht => by
        subst ht
        refine hread t ?_
        simp only [Oper.looksAt, List.mem_append, List.mem_filterMap]
        exact .inl ⟨.tmp t, by simpa using hx, rfl⟩)
      have hwant : awant ops (AD A ops vs (D listed) ops.size) o = awant ops (As i) o := by
        unfold awant
        split
        · rfl
        · rename_i g want hg
          cases hd : (ops[g]?).bind (·.dst) with
          | none => rfl
          | some d =>
            simp only
            rw [hread d (by simp [Oper.looksAt, hg, hd])]
      -- the next state
      let listed' := listed.setIfInBounds i true
      have hD' : ∀ j, D listed' j = (decide (j = i) || D listed j) := fun j => by
        simp only [D, listed', Array.getD_eq_getD_getElem?, Array.getElem?_setIfInBounds]
        by_cases hji : i = j
        · subst hji; simp [hlt]
        · simp [hji, Ne.symm hji]
      have hsz' : listed'.size = ops.size := by simpa [listed'] using hsz
      have hcl' : Closed ops (D listed') := fun j oj hoj hj e he hb => by
        rw [hD'] at hj ⊢
        simp only [Bool.or_eq_true, decide_eq_true_eq] at hj ⊢
        rcases hj with rfl | hj
        · rw [ho] at hoj; cases hoj; exact .inr (hpre1 e he hb)
        · exact .inr (hcl j oj hoj hj e he hb)
      have hAs_len : (As i).length = A.length := by
        have := AD_text tr (i := i) (by omega) ops.size (Nat.le_refl _)
        rw [show min ops.size i = i by omega] at this
        rw [← this, AD_len]
      have hAD' : AD A ops vs (D listed') ops.size = putA (AD A ops vs (D listed) ops.size) o.dst (vs i) := by
        apply List.ext_getElem?
        intro t
        rw [putA_get, AD_len]
        by_cases hd : o.dst = some t
        · rw [AD_same (E := fun j => decide (j < i + 1)) ops.size, AD_text tr (i := i + 1) (by omega) ops.size (Nat.le_refl _), show min ops.size (i + 1) = i + 1 by omega, (tr.step i o ho).1, putA_get, hAs_len]
          · by_cases htl : t < A.length
            · simp [hd, htl]
            · simp only [htl, and_false, if_false]
              rw [List.getElem?_eq_none (by omega), List.getElem?_eq_none (by rw [AD_len]; omega)]
          · intro j hj hdst
            rw [hD']
            by_cases hji : j = i
            · subst hji; simp
            · rw [hslot t (by simp [names, hd]) j hj hdst hji]
              simp only [hji, decide_false, Bool.false_or]
              congr 1; simp only [eq_iff_iff]; omega
        · simp only [hd, false_and, if_false]
          refine AD_same ops.size (fun j hj hdst => ?_)
          rw [hD']
          have : j ≠ i := fun e => by subst e; rw [ho] at hdst; exact hd hdst
          simp [this]
      have hun : unlisted ops.size listed' ≤ fuel := by
        have : unlisted ops.size listed' < unlisted ops.size listed := by
          refine filter_lt (x := i) (by simpa using hin) ?_ ?_ ?_
          · have := hDi; simp only [D] at this; simp [this]
          · have := hD' i; simp only [D, decide_true, Bool.true_or] at this; simp [this]
          · intro y _ hy
            have := hD' y; simp only [D] at this
            rw [this] at hy
            simp only [Bool.not_or, Bool.and_eq_true] at hy
            exact hy.2
        omega
      -- heaps
      have hHD_not : callN M o.op = false → HDM (callN M) h ops hs (D listed') ops.size = HDM (callN M) h ops hs (D listed) ops.size := fun he => by
        refine HDM_same ops.size (fun j oj hj hoj hje => ?_)
        rw [hD']
        have : j ≠ i := fun e => by subst e; rw [ho] at hoj; cases hoj; rw [he] at hje; cases hje
        simp [this]
      have hHD_tail : ∀ m k, m ≤ k → k ≤ ops.size → HDM (callN M) h ops hs (fun j => decide (j < m)) k = HDM (callN M) h ops hs (fun j => decide (j < m)) m := by
        intro m k
        induction k with
        | zero => intro h1 _; have : m = 0 := by omega
                  subst this; rfl
        | succ k ihk =>
          intro h1 h2
          by_cases hmk : m = k + 1
          · subst hmk; rfl
          · simp only [HDM]
            rw [if_neg (by simp; omega), ihk (by omega) (by omega)]
      have hHD_eff : callN M o.op = true → HDM (callN M) h ops hs (D listed) ops.size = hs i ∧ HDM (callN M) h ops hs (D listed') ops.size = hs (i + 1) := fun he => by
        have hDk : ∀ j oj, j < ops.size → ops[j]? = some oj → callN M oj.op = true → j ≠ i → D listed j = decide (j < i) := fun j oj hj hoj hje hji => by
          rcases Nat.lt_or_gt_of_ne hji with q | q
          · rw [ancD j (sim.eff j i oj o hoj ho q hje he)]; simp [q]
          · rw [notD j oj hoj (sim.eff i j o oj ho hoj q he hje)]; simp; omega
        constructor
        · rw [HDM_same (E := fun j => decide (j < i)) ops.size, hHD_tail i ops.size (by omega) (Nat.le_refl _), HDM_text tr.h0.symm (fun _ _ hj => absurd hj (Nat.not_lt_zero _)) hstay (fun _ _ => trivial) i (Nat.zero_le _) (by omega) (Nat.le_refl _)]
          intro j oj hj hoj hje
          by_cases hji : j = i
          · subst hji; rw [hDi]; simp
          · exact hDk j oj hj hoj hje hji
        · rw [HDM_same (E := fun j => decide (j < i + 1)) ops.size, hHD_tail (i + 1) ops.size (by omega) (Nat.le_refl _), HDM_text tr.h0.symm (fun _ _ hj => absurd hj (Nat.not_lt_zero _)) hstay (fun _ _ => trivial) (i + 1) (by omega) (by omega) (Nat.le_refl _)]
          intro j oj hj hoj hje
          rw [hD']
          by_cases hji : j = i
          · subst hji; simp
          · rw [hDk j oj hj hoj hje hji]
            simp only [hji, decide_false, Bool.false_or]
            congr 1; simp only [eq_iff_iff]; omega
      have hHD_read : readsQ M o.op = true → isLoad o.op = false → HDM (callN M) h ops hs (D listed) ops.size = hs i := fun hk hl => by
        rw [HDM_same (E := fun j => decide (j < i)) ops.size, hHD_tail i ops.size (by omega) (Nat.le_refl _), HDM_text tr.h0.symm (fun _ _ hj => absurd hj (Nat.not_lt_zero _)) hstay (fun _ _ => trivial) i (Nat.zero_le _) (by omega) (Nat.le_refl _)]
        intro j oj hj hoj hje
        rcases sim.read i j o oj ho hoj hje hk hl with ⟨q1, q2⟩ | ⟨q1, q2⟩
        · rw [notD j oj hoj q1]; simp; omega
        · rw [ancD j q1]; simp [q2]
      have hbases1 : ∀ γ ∈ G1.bases, γ.1 ≤ β.nb := by rw [st1.bases]; exact hβ
      show wpOp P ops Q i (wpAny P .any ops Q fuel listed') a1 w1
      unfold wpOp
      simp only [ho]
      rcases (tr.step i o ho).2 with ⟨hw, hop⟩ | ⟨hw, hv, hsame⟩
      · rw [awant_ok r1 (hwant.trans hw), if_pos rfl]
        left
        rcases sim.kind i o ho with hk | hk
        · -- quiet
          have hneff : callN M o.op = false := quietM_not_call hk
          have haop : aop P (S) β o (AD A ops vs (D listed) ops.size) (HDM (callN M) h ops hs (D listed) ops.size) = some (vs i, HDM (callN M) h ops hs (D listed) ops.size) := by
            rw [aop_congr hev]
            obtain ⟨g, hg1, hg2, hg3⟩ := quiet_formM (P := P) hp (β := β) (A := As i) hk
            rw [hg1, Option.map_eq_some_iff] at hop
            obtain ⟨v, hv1, hv2⟩ := hop
            simp only [Prod.mk.injEq] at hv2
            rw [hg1]
            cases hrd : readsH o.op
            · rw [hg2 hrd _ (hs i), hv1, hv2.1]; rfl
            · by_cases hl : isLoad o.op = true
              · have e : g (HDM (callN M) h ops hs (D listed) ops.size) = g (hs i) := by
                  have e1 := load_blk (P := P) (S := S) (β := β) (A := As i) hl ((hHblk (D listed) ops.size (Nat.le_refl _)).trans (hblk i (by omega)).symm)
                  rw [hg1, hg1, Option.map_map, Option.map_map] at e1
                  simpa [Function.comp_def] using e1
                rw [e, hv1, hv2.1]; rfl
              · rw [hHD_read (by simp [readsQ, hrd, quietM_not_eff hk]) (by simpa using hl), hv1, hv2.1]; rfl
          refine aop_ok hS s1 hbases1 r1 haop (fun G2 w2 u st2 s2 hrel => ?_)
          refine ih listed' G2 w2 _ hsz' hcl' ?_ ?_ ?_ hun
          · rw [hHD_not hneff]; exact s2
          · rw [hHD_not hneff]; exact st1.trans st2
          · rw [hAD']; exact put_rel (r1.mono st2.le) hrel o.dst
        · -- an effect
          obtain ⟨e1, e2⟩ := hHD_eff hk
          rw [e1] at s1 st1
          refine aop_ok hS s1 hbases1 r1 (by rw [aop_congr hev]; exact hop) (fun G2 w2 u st2 s2 hrel => ?_)
          refine ih listed' G2 w2 _ hsz' hcl' ?_ ?_ ?_ hun
          · rw [e2]; exact s2
          · rw [e2]; exact st1.trans st2
          · rw [hAD']; exact put_rel (r1.mono st2.le) hrel o.dst
      · -- not wanted
        rw [awant_ok r1 (hwant.trans hw)]
        simp only [Bool.false_eq_true, if_false]
        have hsameHD : HDM (callN M) h ops hs (D listed') ops.size = HDM (callN M) h ops hs (D listed) ops.size := by
          by_cases he : callN M o.op = true
          · obtain ⟨e1, e2⟩ := hHD_eff he
            rw [e1, e2, hsame]
          · exact hHD_not (by simpa using he)
        refine ih listed' G1 w1 _ hsz' hcl' ?_ ?_ ?_ hun
        · rw [hsameHD]; exact s1
        · rw [hsameHD]; exact st1
        · rw [hAD', hv]; exact put_rel r1 (undef_rel G1) o.dst
  have hD0 : ∀ j, D (Array.replicate ops.size false) j = false := fun j => by
    simp only [D, Array.getD_eq_getD_getElem?]
    by_cases hj : j < ops.size
    · simp [hj]
    · simp [hj]
  have hHD0 : HDM (callN M) h ops hs (D (Array.replicate ops.size false)) ops.size = h := HDM_none _ (fun j o _ _ _ => hD0 j)
  have hAD0 : ∀ k, AD A ops vs (D (Array.replicate ops.size false)) k = A := fun k => by
    induction k with
    | zero => rfl
    | succ k ihk => simp only [AD, hD0, Bool.false_eq_true, if_false, ihk]
  have s0 : SRel G h { w with drawn := w.drawn + 1 } := s.drawn _
  have st0 : Step G h w G h { w with drawn := w.drawn + 1 } := ⟨.refl G, rfl, rfl, rfl, Nat.le_refl _, fun _ _ _ => rfl, fun _ ho => .inl ho, rfl, ⟨fun _ _ h _ => h, by simp⟩, fun _ _ _ h => .inl h⟩
  refine main ops.size _ G _ a (by simp) (fun j o _ hj => by rw [hD0] at hj; cases hj) (by rw [hHD0]; exact s0) (by rw [hHD0]; exact st0) (by rw [hAD0]; exact r) ?_
  · unfold unlisted
    have := List.length_filter_le (fun i => !(Array.replicate ops.size false).getD i false) (List.range ops.size)
    simpa using this

end
end Go.VM
end
section
/- Code whose drawn regions may have loads behind calls that leave the blocks. -/
namespace Go.VM
set_option linter.unusedSectionVars false
variable [Inhabited Globs]
/-- the calls of M leave all blocks as they are -/
def KeepS (E : Env) (M : FuncId → Bool) : Prop := ∀ g, M g = true → ∀ args h v h', E.S g args h = some (v, h') → h'.blk = h.blk
def allSimpleL (M : FuncId → Bool) : Code → Bool
  | .region _ ops true => simpleRegionM M ops || simpleRegionL M ops
  | .seq a b => allSimpleL M a && allSimpleL M b
  | .cond _ a b => allSimpleL M a && allSimpleL M b
  | .block _ c => allSimpleL M c
  | .loop c => allSimpleL M c
  | .scope c => allSimpleL M c
  | _ => true
theorem keep_sof {P : Program} {M : FuncId → Bool} : ∀ {cs : List (Ctr P)}, (∀ c ∈ cs, M c.f = true → ∀ x h, c.pre x h → (c.res x h).2.blk = h.blk) → ∀ g, M g = true → ∀ args h v h', Sof cs g args h = some (v, h') → h'.blk = h.blk
  | [], _, g, _, args, h, v, h', he => by simp [Sof] at he
  | c :: cs, hc, g, hg, args, h, v, h', he => by
    simp only [Sof] at he
    split at he
    · rename_i e
      by_cases q : ∃ x, c.args x = args ∧ c.pre x h
      · rw [dif_pos q] at he
        have := hc c (by simp) (by rw [← e]; exact hg) _ h q.choose_spec.2
        rw [Option.some.inj he] at this
        exact this
      · rw [dif_neg q] at he; cases he
    · exact keep_sof (fun c' h' => hc c' (by simp [h'])) g hg args h v h' he
section
variable {P : Program}
theorem wSL_ok {E : Env} {M : FuncId → Bool} (hR : Rests E M) (hK : KeepS E M) : ∀ (c : Code), allSimpleL M c = true → ∀ (A : List AV) (h : H) (os : List Ans) (K : Kn), wS E c A h os K →
    SemC E.P (E.n = 300) E.β c A h (fun x A' h' => ∃ os', K x A' h' os') := by
  intro c
  induction c with
  | skip =>
    intro _ A h os K hw ro Ge he we en obs G w a t Q hQ
    exact wpIn_skip (hQ _ A h G a w ⟨os, hw⟩ t fun _ => .refl _)
  | label l =>
    intro _ A h os K hw ro Ge he we en obs G w a t Q hQ
    exact wpIn_label (hQ _ A h G a w ⟨os, hw⟩ t fun _ => .refl _)
  | exit id =>
    intro _ A h os K hw ro Ge he we en obs G w a t Q hQ
    exact wpIn_exit (hQ (.exit id) A h G a w ⟨os, hw⟩ t fun _ => .refl _)
  | ret =>
    intro _ A h os K hw ro Ge he we en obs G w a t Q hQ
    exact wpIn_ret (hQ .ret A h G a w ⟨os, hw⟩ t fun _ => .refl _)
  | region id ops d =>
    intro hs A h os K hw ro Ge he we en obs G w a t Q hQ
    simp only [wS] at hw
    obtain ⟨A', h', os', hea, hk⟩ := runW_ok hw
    have hβ' : ∀ γ ∈ G.bases, γ.1 ≤ E.β.nb := by rw [t.st.bases]; exact en.bases
    let Q0 : Exit → Act → World → Prop := fun e a' w' => e = .normal ∧ ∃ G', Step G h w G' h' w' ∧ SRel G' h' w' ∧ ARel G' A' a'
    have q1 : ∀ e a' w', Q0 e a' w' → e = .normal := fun e a' w' hq => hq.1
    have q2 : ∀ a' w', Q0 .normal a' w' → a'.defers = [] := fun a' w' hq => by obtain ⟨_, _, _, _, r⟩ := hq; exact r.defers
    have q3 : ∀ a' w', Q0 .normal a' w' → Q .normal { a' with defers := a.defers } w' := fun a' w' hq => by
      obtain ⟨_, G', st, s, r⟩ := hq
      exact hQ .normal A' h' G' _ w' ⟨os', hk⟩ (t.region st s r) fun _ => st.le
    cases d
    · refine wpIn_region ?_
      have := arun_ok hR.summ (Q := Q0) ops.toList 0 A h G w (Act.bare a) A' h' (by simp) t.s hβ' t.r hea (fun G' a' w' st' s' r' => ⟨rfl, G', st', s', r'⟩)
      rw [← List.range_eq_range', Array.length_toList] at this
      exact ops_in (a := Act.bare a) (ds := a.defers) q1 q2 q3 _ w this
    · simp only [allSimpleL] at hs
      obtain ⟨p, hp⟩ := hR.pure
      refine wpIn_region_any hR.mixed ?_
      rw [Bool.or_eq_true] at hs
      rcases hs with hs | hs
      · have := drawM_any hR.mixed hR.summ hp hs hea t.s hβ' t.r (Q := Q0) (fun G' a' w' st' s' r' => ⟨rfl, G', st', s', r'⟩)
        exact any_in (a := Act.bare a) (ds := a.defers) q1 q2 q3 _ _ _ this
      · have := drawL_any hR.mixed hR.summ hp hK hs hea t.s hβ' t.r (Q := Q0) (fun G' a' w' st' s' r' => ⟨rfl, G', st', s', r'⟩)
        exact any_in (a := Act.bare a) (ds := a.defers) q1 q2 q3 _ _ _ this
  | seq x y ihx ihy =>
    intro hs A h os K hw ro Ge he we en obs G w a t Q hQ
    simp only [allSimpleL, Bool.and_eq_true] at hs
    simp only [wS] at hw
    refine wpIn_seq ?_
    refine ihx hs.1 _ _ _ _ hw ro Ge he we en obs G w a t _ (fun x1 A1 h1 G1 a1 w1 hk t1 l1 => ?_)
    obtain ⟨os1, hk⟩ := hk
    cases x1
    · exact ihy hs.2 _ _ _ _ hk ro Ge he we en obs G1 w1 a1 t1 Q (fun x A' h' G' a' w' hk2 t2 l2 => hQ x A' h' G' a' w' hk2 t2 fun q => (l1 q).trans (l2 q))
    · exact hQ _ A1 h1 G1 a1 w1 ⟨os1, hk⟩ t1 l1
    · exact hQ _ A1 h1 G1 a1 w1 ⟨os1, hk⟩ t1 l1
  | cond o x y ihx ihy =>
    intro hs A h os K hw ro Ge he we en obs G w a t Q hQ
    simp only [allSimpleL, Bool.and_eq_true] at hs
    simp only [wS] at hw
    have hc := aev_rel t.r o
    split at hw
    · rename_i hbb; rw [hbb] at hc; simp only [VRel] at hc
      exact wpIn_cond_true hc (ihx hs.1 _ _ _ _ hw ro Ge he we en obs G w a t Q hQ)
    · rename_i hbb; rw [hbb] at hc; simp only [VRel] at hc
      exact wpIn_cond_false hc (ihy hs.2 _ _ _ _ hw ro Ge he we en obs G w a t Q hQ)
    · exact hw.elim
  | block id c ih =>
    intro hs A h os K hw ro Ge he we en obs G w a t Q hQ
    simp only [allSimpleL] at hs
    simp only [wS] at hw
    refine wpIn_block ?_
    refine ih hs _ _ _ _ hw ro Ge he we en obs G w a t _ (fun x1 A1 h1 G1 a1 w1 hk t1 l1 => ?_)
    obtain ⟨os1, hk⟩ := hk
    cases x1
    · exact hQ .normal A1 h1 G1 a1 w1 ⟨os1, hk⟩ t1 l1
    · rename_i i
      simp only at hk
      split at hk
      · rename_i hi
        simp only [AX.toExit, Exit.inBlock, hi, if_true]
        exact hQ .normal A1 h1 G1 a1 w1 ⟨os1, hk⟩ t1 l1
      · rename_i hi
        simp only [AX.toExit, Exit.inBlock, hi, if_false]
        exact hQ (.exit i) A1 h1 G1 a1 w1 ⟨os1, hk⟩ t1 l1
    · exact hQ .ret A1 h1 G1 a1 w1 ⟨os1, hk⟩ t1 l1
  | loop c ih =>
    intro hs A h os K hw
    simp only [allSimpleL] at hs
    simp only [wS] at hw
    split at hw
    · rename_i is outs os1
      refine (hw.1 A rfl rfl).mono ?_
      rintro x A' h' ⟨hN, hh⟩
      exact outs_hit hN hh hw.2
    · intro ro Ge he we en obs G w a t Q hQ
      exact wpIn_loop_rounds E.n (iterS_ok (ih hs) en E.n A h _ K hw G w a t Q hQ)
  | scope c ih =>
    intro hs A h os K hw ro Ge he we en obs G w a t Q hQ
    simp only [allSimpleL] at hs
    simp only [wS] at hw
    refine wpIn_scope ?_
    refine ih hs _ _ _ _ hw ro Ge he we en obs G w a t _ (fun x1 A1 h1 G1 a1 w1 hk t1 l1 => ?_)
    have hq := hQ x1 A1 h1 G1 a1 w1 hk t1 l1
    cases x1 <;> exact hq
  | rangeFunc g ps x y _ _ =>
    intro hs A h os K hw
    simp only [wS] at hw
    split at hw
    · rename_i is outs os1
      refine (hw.1 A rfl rfl).mono ?_
      rintro x A' h' ⟨hN, hh⟩
      exact outs_hit hN hh hw.2
    · exact hw.elim
  | _ => intro _ A h os K hw; exact hw.elim


theorem loop_sL {P : Program} {S : Summ} {p : Pures} {β : Base} {n : Nat} {c : Code} {N : Nat} {is : List Nat} {vs : List AV} {h : H} {outs : List Out} {M : FuncId → Bool}
    (hR : Rests ⟨P, S, p, β, n⟩ M) (hK : KeepS ⟨P, S, p, β, n⟩ M) (hc : allSimpleL M c = true) (cut : Option Nat) (hcut : ∀ nb, cut = some nb → β.nb ≤ nb ∧ h.blk.length ≤ nb)
    (I : Nat → List AV → H → Prop) (m : Nat) (h0 : I 0 vs h)
    (hlen : ∀ nb, cut = some nb → ∀ j vs h, I j vs h → h.blk.length ≤ nb)
    (hstep : ∀ j vs h, j ≤ m → I j vs h → ∃ os, ∀ u, Led (wS ⟨P, S, p, β, n⟩ c (fr N u (is.zip vs)) h os (KroundS cut I N m j is outs))) :
    LoopS ⟨P, S, p, β, n⟩ c N is vs h outs := by
  intro A0 hA0 hs0 ro Ge he we en obs
  obtain ⟨h0l, hh0⟩ : ∃ x, x = h.blk.length := ⟨_, rfl⟩
  have go : ∀ (d j : Nat) (A : List AV) (h : H), m - j = d → j ≤ m → A.length = N → I j (sel is A) h → ∀ (G0 G : Ghost) (w : World) (a : Act), Stt ro obs Ge he we G A h w a → (∀ b c, G0.φ b = some c → b < h0l) → (n = 300 → G0.Le G) →
      ∀ (Q : Exit → Act → World → Prop), (∀ x A' h' G' a' w', (A'.length = N ∧ hits outs x A' h') → Stt ro obs Ge he we G' A' h' w' a' → (n = 300 → G0.Le G') → Q x.toExit a' w') → Code.roundsIn (fen ro) 0 P c Q (d + 1) a w := by
    intro d
    induction d with
    | zero =>
      intro j A h hd hj hA hI G0 G w a t hb0 l0 Q hQ
      obtain ⟨os, hw⟩ := hstep j _ _ hj hI
      have := (hw (fun i => A.getD i .undef)).it
      rw [← hA, fr_sel] at this
      rw [roundsIn_succ]
      refine wSL_ok hR hK c hc _ _ _ _ this ro Ge he we en obs G w a t _ (fun x1 A1 h1 G1 a1 w1 hk t1 l1 => ?_)
      obtain ⟨os1, hk⟩ := hk
      cases x1
      · simp only [KroundS] at hk; omega
      · simp only [KroundS] at hk
        exact hQ _ A1 h1 G1 a1 w1 ⟨by rw [hk.1, hA], hk.2⟩ t1 fun q => (l0 q).trans (l1 q)
      · simp only [KroundS] at hk
        exact hQ _ A1 h1 G1 a1 w1 ⟨by rw [hk.1, hA], hk.2⟩ t1 fun q => (l0 q).trans (l1 q)
    | succ d ih =>
      intro j A h hd hj hA hI G0 G w a t hb0 l0 Q hQ
      obtain ⟨os, hw⟩ := hstep j _ _ hj hI
      have := (hw (fun i => A.getD i .undef)).it
      rw [← hA, fr_sel] at this
      rw [roundsIn_succ]
      refine wSL_ok hR hK c hc _ _ _ _ this ro Ge he we en obs G w a t _ (fun x1 A1 h1 G1 a1 w1 hk t1 l1 => ?_)
      obtain ⟨os1, hk⟩ := hk
      cases x1
      · simp only [KroundS] at hk
        obtain ⟨k1, k2, k3⟩ := hk
        cases hcu : cut with
        | none =>
          rw [hcu] at k3
          exact ih (j + 1) A1 h1 (by omega) (by omega) (by rw [k1, hA]) k3 G0 G1 w1 a1 t1 hb0 (fun q => (l0 q).trans (l1 q)) Q hQ
        | some nb =>
          rw [hcu] at k3
          obtain ⟨k4, k5, k6⟩ := k3
          have hnb : he.blk.length = β.nb := by have := congrArg Base.nb en.base; exact this
          have hb1 : ∀ γ ∈ G1.bases, γ.1 ≤ nb := fun γ hγ => by
            rw [t1.st.bases] at hγ
            exact Nat.le_trans (en.bases γ hγ) (hcut nb hcu).1
          have t2 := t1.cut k5 hb1 en.srel (by rw [hnb]; exact (hcut nb hcu).1)
          exact ih (j + 1) _ _ (by omega) (by omega) (by simp [keepA, k1, hA]) (by rw [sel_keep k4]; exact k6) G0 (G1.cut nb) w1 a1 t2 hb0 (fun q => le_cut ((l0 q).trans (l1 q)) (fun b c hb => by have := hb0 b c hb; have := (hcut nb hcu).2; omega)) Q hQ
      · simp only [KroundS] at hk
        exact hQ _ A1 h1 G1 a1 w1 ⟨by rw [hk.1, hA], hk.2⟩ t1 fun q => (l0 q).trans (l1 q)
      · simp only [KroundS] at hk
        exact hQ _ A1 h1 G1 a1 w1 ⟨by rw [hk.1, hA], hk.2⟩ t1 fun q => (l0 q).trans (l1 q)
  intro G w a t Q hQ
  exact wpIn_loop_rounds (m + 1) (go m 0 A0 h (by omega) (Nat.zero_le _) hA0 (by rw [hs0]; exact h0) G G w a t (fun b c hb => by rw [hh0]; exact t.s.dom.φ b c hb) (fun _ => .refl _) Q hQ)

/-- a function's body, read so -/
structure FokL (P : Program) (M : FuncId → Bool) (f : FuncId) (fn : Func) : Prop where
  mixed : P.follows .mixedOrders = true
  at_ : P.funcs[f]? = some fn
  body : fn.body = some (bd fn)
  call : callable P f = true
/-- a body, put together from what its parts come to -/
theorem sem_callL {E : Env} {M : FuncId → Bool} {f : FuncId} {fn : Func} {args : List AV} {h : H} {r : AV × H} {lv : Prop} (k : FokL E.P M f fn) (hβ : E.β = h.base)
    (hsem : SemC E.P lv E.β (bd fn) (args ++ List.replicate (fn.ntmps - args.length) .undef) h (fun x A' h' => ∃ os', Kfin E fn h r x A' h' os')) : CallOk E.P f args h r.1 r.2 := by
  intro G w vs s hgl hr
  have hl := hr.length
  refine callsIn_wide.1 (callsIn_of_wp_marks (F := fen none) (n := 0) k.at_ k.body trivial ?_ rfl)
  have hle : G.Le { G with bases := (h.blk.length, h.toks.length, h.maps.length) :: G.bases } := ⟨fun _ _ h => h, fun _ _ _ h => h, fun _ _ _ h => h, fun _ _ h => h⟩
  have en : Ent E.β { G with bases := (h.blk.length, h.toks.length, h.maps.length) :: G.bases } h w := ⟨s.push, hβ.symm, hgl, by
    intro γ hγ
    rw [hβ]
    rcases List.mem_cons.1 hγ with rfl | hγ
    · exact Nat.le_refl _
    · exact (s.bases γ hγ).1⟩
  refine hsem none _ h w en [] _ w _ ⟨.refl _ _ _, s.push, fun p hp => (by cases hp), ⟨[], rfl, List.nodup_nil, fun D hD => (by cases hD), fun p hp => (by cases hp)⟩, fun l hl => (by cases hl), ?_⟩ _ (fun x A1 h1 G1 a1 w1 hk t1 _ => ?_)
  · refine ⟨?_, rfl, hgl⟩
    simp only [Array.toList_append, Array.toList_replicate, List.size_toArray]
    rw [← hl]
    exact (VRels.mono hle _ _ hr).append (VRels.replicate (undef_rel _) _)
  · obtain ⟨os1, hk⟩ := hk
    have st1 := t1.st
    have s1 := t1.s
    have r1 := t1.r
    have fin : ∀ vs', resvs E.P h1 A1 fn.results.toList = some vs' → leave h.base (oneOrTup vs') h1 = r → bodyPostM (fen none) 0 E.P fn (fun e w' => ∃ G' u, e = .returned u ∧ Step G h w G' r.2 w' ∧ SRel G' r.2 w' ∧ VRel G' r.1 u) .ret a1 w1 := by
      intro vs' hvs' hlv
      obtain ⟨Ds, eD, hn, hB, hk⟩ := t1.marks
      show LeavesInM (fen none) 0 E.P fn a1.tmps _ a1.defers .returning w1
      rw [eD]
      refine leaves_marks Ds w1 hn hB hk st1 s1 (fun w2 st2 s2 => ?_)
      obtain ⟨u, hu1, hu2⟩ := results_ok s2 r1 hvs'
      obtain ⟨G', g1, g2, g3⟩ := leave_ok s s2 st2 hu2 (v' := r.1) (h' := r.2) hlv
      exact ⟨u, hu1, G', u, rfl, g2, g1, g3⟩
    cases x
    · simp only [Kfin] at hk
      split at hk
      · rename_i vs' hv; exact fin vs' hv hk
      · exact hk.elim
    · exact hk.elim
    · simp only [Kfin] at hk
      split at hk
      · rename_i vs' hv; exact fin vs' hv hk
      · exact hk.elim
theorem Body.callL {E : Env} {M : FuncId → Bool} {f : FuncId} {fn : Func} {args : List AV} {h : H} {r : AV × H} (hb : Body E M fn args h r) (k : FokL E.P M f fn) (hs : allSimpleL M (bd fn) = true) (hR : Rests E M) (hK : KeepS E M) (hβ : E.β = h.base) : CallOk E.P f args h r.1 r.2 := by
  obtain ⟨os, hw⟩ := hb.it
  exact sem_callL k hβ (wSL_ok hR hK (bd fn) hs _ h os _ hw)
end
end Go.VM
end
section
/- Places in arrays and slices by an integer that is not told as a natural. -/
namespace Go.VM
set_option linter.unusedSectionVars false
variable [Inhabited Globs]
section
variable {P : Program} {t : TypeId}
theorem ixm0_int (hu : (elemT P t).bind (sizeT P) = some 1) {b n c z : Nat} {k : IntKind} {i : Int} (h0 : 0 ≤ i) (h : i < n) :
    aIndexAddr P t (.msl b 0 n c z) (.int k i) = some (.ptr b i.toNat) := by
  obtain ⟨m, rfl⟩ : ∃ m : Nat, i = m := ⟨i.toNat, by omega⟩
  exact ixm0 hu (by omega)
end
end Go.VM
end
section
/- Package variables that are laid: tables of integers, by their cells. -/
namespace Go.VM
open Go.ChangeShapes Go.WideShapes Go.RowKit

theorem laid_ints {P : Program} {W : World} {name : String} {g : Nat} {t e : TypeId} {k : IntKind} {zs : List Int} {rest : List (String × DataW Unit)} {ps : List MemPlace}
    (hL : DataW.LaidVars P W ((name, .agg (zs.map fun z => .lit (.int k z))) :: rest) ps) (hg : P.globalNamed name = some g) (ht : (P.globals[g]?).map (·.type) = some t)
    (hu : P.underlying t = some (.array zs.length e)) (he : P.underlying e = some (.int k)) (hc : P.cellsOf e = 1) :
    (∀ (i : Nat) (v : Value), (zs.map fun z => Value.int k z)[i]? = some v → W.cell? ⟨g, i, none⟩ = some v) ∧ ∃ qs, DataW.LaidVars P W rest qs := by
  obtain ⟨g', t', cs, fuel, p, q, hg', ht', hv, hd, hr, _⟩ := hL
  obtain rfl := Option.some.inj (hg.symm.trans hg')
  obtain rfl := Option.some.inj (ht.symm.trans ht')
  refine ⟨fun i v hi => ?_, q, hr⟩
  obtain ⟨xs, m, _, ex, _, hl, hel⟩ := DataW.trod_array hu hd
  rw [List.getElem?_map, Option.map_eq_some_iff] at hi
  obtain ⟨z, hz, rfl⟩ := hi
  have hlt : i < zs.length := (List.getElem?_eq_some_iff.1 hz).1
  have hE := hel i hlt
  rw [hc, Nat.mul_one, List.getElem?_eq_getElem (by omega)] at hE
  obtain ⟨z', e1, e2, _⟩ := DataW.trod_int he hE
  have e3 : (xs.map (·.1)) = zs.map fun n => .lit (.int k n) := (DataW.agg.inj (Prod.mk.inj ex).1).symm
  have e4 : (xs.map (·.1))[i]? = (zs.map fun n => (DataW.lit (.int k n) : DataW Unit))[i]? := by rw [e3]
  rw [List.getElem?_map, List.getElem?_map, List.getElem?_eq_getElem (by omega : i < xs.length), hz, e2] at e4
  have hzz : z' = z := by
    simp only [Option.map_some, Option.some.injEq, DataW.lit.injEq, Lit.int.injEq, true_and] at e4
    exact e4
  subst hzz
  rw [World.var?_cell hg hv i]
  have : cs.toList[i]? = some (.int k z') := by
    have h0 : ((cs.toList.drop i).take 1)[0]? = some (.int k z') := by rw [e1]; rfl
    simpa using h0
  simpa using this
end Go.VM
end
section
/- A slice of integers that comes in: its elements are integers of 64 bits. -/
namespace Go.VM
set_option linter.unusedSectionVars false
variable [Inhabited Globs]
open Go.ChangeShapes Go.WideShapes Go.RowKit
section
variable {H : Type} {enc : TypeId × Value → H} {P : Program} {w : World} {held : Bool}
theorem open_listr {t e : TypeId} {fuel : Nat} {v : Value} {x : DataW H × List MemPlace} (ht : P.underlying t = some (.slice e)) (he : P.underlying e = some (.int .i64)) (hc : P.cellsOf e = 1)
    (h : DataW.trod enc P w 0 (fun _ => true) held fuel t [v] = some x) :
    ∃ (l : List Int) (k : RK), VRel (.ofCells (seen w)) (rowA (l, k)) v ∧ l.length ≤ maxLen ∧ (k.mt = true → l = []) ∧ ∀ i, i < l.length → -9223372036854775808 ≤ l.getD i i0 ∧ l.getD i i0 < 9223372036854775808 := by
  rcases open_ints ht he hc h with ⟨hv, _⟩ | ⟨a, len, cap, zs, hv, _, hl, hm, hz, _, hcell, hwf⟩
  · simp only [List.cons.injEq, and_true] at hv; subst hv
    exact ⟨[], .n, by simp [rowA, VRel, rr], by simp, fun _ => rfl, fun i hi => absurd hi (Nat.not_lt_zero _)⟩
  · simp only [List.cons.injEq, and_true] at hv; subst hv
    simp only [if_true] at hz
    by_cases hc0 : cap = 0
    · obtain rfl : len = 0 := by omega
      subst hc0
      exact ⟨[], .e, by simp only [rowA, VRel, rr]; exact .inl (.inr ⟨by simp, by simp, by simp, a, rfl⟩), by simp, fun _ => rfl, fun i hi => absurd hi (Nat.not_lt_zero _)⟩
    · have hs : a.spot = none := by
        have := cell_spot (hcell 0 (by omega))
        simpa [Addr.add] using this
      have hlen : (zs.take len).length = len := by rw [List.length_take]; omega
      refine ⟨zs.take len, .l, ?_, by omega, fun h => (by cases h), fun i hi => ?_⟩
      · simp only [rowA, VRel, rr, hlen]
        refine .inr ⟨a.block, a.off, cap, _, ?_, hl, hm, trivial, vrels_ints _, ?_⟩
        · obtain ⟨b, o, s⟩ := a
          simp only at hs; subst hs; rfl
        · intro i u hu
          rw [List.getElem?_map, Option.map_eq_some_iff] at hu
          obtain ⟨n, hn, rfl⟩ := hu
          have hi : i < len := by
            have := (List.getElem?_eq_some_iff.1 hn).1
            omega
          have := hcell i (by omega)
          rw [List.getElem?_take, if_pos hi] at hn
          have hg : zs.getD i 0 = n := by rw [List.getD_eq_getElem?_getD, hn]; rfl
          rw [hg] at this
          obtain ⟨b, o, s⟩ := a
          simp only at hs; subst hs
          rw [addr_add] at this
          exact this
      · have hiz : i < zs.length := by omega
        have hg : (zs.take len).getD i i0 = zs[i] := by
          rw [List.getD_eq_getElem?_getD, List.getElem?_take, if_pos (by omega), List.getElem?_eq_getElem hiz]; rfl
        have := hwf zs[i] (List.getElem_mem hiz)
        rw [hg]
        simp only [Lit.wf, Bool.and_eq_true, decide_eq_true_eq] at this
        have h1 : IntKind.i64.min = -9223372036854775808 := by decide
        have h2 : IntKind.i64.max = 9223372036854775807 := by decide
        rw [h1, h2] at this
        omega
end
end Go.VM
end
