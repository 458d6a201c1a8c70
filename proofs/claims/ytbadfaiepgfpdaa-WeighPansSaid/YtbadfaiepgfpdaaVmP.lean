/- Regions with few orders, tried one by one; whole trees of calls. -/
import Derived.Test.YtbadfaiepgfpdaaVmO
namespace Go.VM

mutual
def AV.beq : AV → AV → Bool
  | .bool a, .bool b => a == b
  | .int j a, .int k b => j == k && a == b
  | .str a, .str b => a.toList == b.toList
  | .nilP, .nilP | .nilM, .nilM | .nilF, .nilF | .nilI, .nilI | .top, .top => true
  | .agg a, .agg b | .tup a, .tup b | .cptr a, .cptr b => AV.beqs a b
  | .ptr a b, .ptr c d => a == c && b == d
  | .sl a n r, .sl b m s => AV.beqs a b && n == m && r == s
  | .msl a b c d e, .msl a' b' c' d' e' => a == a' && b == b' && c == c' && d == d' && e == e'
  | .map a, .map b => a == b
  | .fn f a b, .fn g c d => f == g && AV.beqs a c && AV.beqs b d
  | _, _ => false
def AV.beqs : List AV → List AV → Bool
  | [], [] => true
  | a :: as, b :: bs => AV.beq a b && AV.beqs as bs
  | _, _ => false
end

theorem ba_list {a b : ByteArray} (h : a.toList = b.toList) : a = b := (ba_beq a b).1 (by rw [beq_toListBytes]; simp [h])

mutual
theorem AV.beq_eq : ∀ a b : AV, AV.beq a b = true → a = b
  | .bool _, b, h => by cases b <;> simp [AV.beq] at h; simp [h]
  | .int _ _, b, h => by cases b <;> simp [AV.beq] at h; simp [h]
  | .str _, b, h => by cases b <;> simp [AV.beq] at h; rw [ba_list h]
  | .nilP, b, h => by cases b <;> simp [AV.beq] at h; rfl
  | .nilM, b, h => by cases b <;> simp [AV.beq] at h; rfl
  | .nilF, b, h => by cases b <;> simp [AV.beq] at h; rfl
  | .nilI, b, h => by cases b <;> simp [AV.beq] at h; rfl
  | .top, b, h => by cases b <;> simp [AV.beq] at h; rfl
  | .agg as, b, h => by cases b <;> simp [AV.beq] at h; rw [AV.beqs_eq _ _ h]
  | .tup as, b, h => by cases b <;> simp [AV.beq] at h; rw [AV.beqs_eq _ _ h]
  | .cptr as, b, h => by cases b <;> simp [AV.beq] at h; rw [AV.beqs_eq _ _ h]
  | .ptr _ _, b, h => by cases b <;> simp [AV.beq] at h; simp [h]
  | .sl as n r, b, h => by cases b <;> simp [AV.beq] at h; rw [AV.beqs_eq _ _ h.1.1, h.1.2, h.2]
  | .msl _ _ _ _ _, b, h => by cases b <;> simp [AV.beq] at h; simp [h]
  | .map _, b, h => by cases b <;> simp [AV.beq] at h; simp [h]
  | .fn f as bs, b, h => by cases b <;> simp [AV.beq] at h; rw [h.1.1, AV.beqs_eq _ _ h.1.2, AV.beqs_eq _ _ h.2]
theorem AV.beqs_eq : ∀ a b : List AV, AV.beqs a b = true → a = b
  | [], b, h => by cases b <;> simp [AV.beqs] at h; rfl
  | a :: as, b, h => by
    cases b with
    | nil => simp [AV.beqs] at h
    | cons b bs => simp only [AV.beqs, Bool.and_eq_true] at h; rw [AV.beq_eq _ _ h.1, AV.beqs_eq _ _ h.2]
end

def listBeq {α : Type} (f : α → α → Bool) : List α → List α → Bool
  | [], [] => true
  | a :: as, b :: bs => f a b && listBeq f as bs
  | _, _ => false
theorem listBeq_eq {α : Type} {f : α → α → Bool} (hf : ∀ a b, f a b = true → a = b) : ∀ as bs, listBeq f as bs = true → as = bs
  | [], [], _ => rfl
  | a :: as, b :: bs, h => by
    simp only [listBeq, Bool.and_eq_true] at h
    rw [hf a b h.1, listBeq_eq hf as bs h.2]
  | [], _ :: _, h | _ :: _, [], h => by simp [listBeq] at h

def H.beq (a b : H) : Bool := listBeq AV.beqs a.blk b.blk && a.toks == b.toks && listBeq (listBeq fun x y => AV.beq x.1 y.1 && AV.beq x.2 y.2) a.maps b.maps
theorem H.beq_eq {a b : H} (h : H.beq a b = true) : a = b := by
  obtain ⟨a1, a2, a3⟩ := a
  obtain ⟨b1, b2, b3⟩ := b
  simp only [H.beq, Bool.and_eq_true, beq_iff_eq] at h
  have h1 := listBeq_eq AV.beqs_eq _ _ h.1.1
  have h3 := listBeq_eq (listBeq_eq (f := fun (x y : AV × AV) => AV.beq x.1 y.1 && AV.beq x.2 y.2) (fun x y h => by
    simp only [Bool.and_eq_true] at h
    exact Prod.ext (AV.beq_eq _ _ h.1) (AV.beq_eq _ _ h.2))) _ _ h.2
  rw [h1, h.1.2, h3]

def resBeq : Option (List AV × H) → Option (List AV × H) → Bool
  | some a, some b => AV.beqs a.1 b.1 && H.beq a.2 b.2
  | _, _ => false
theorem resBeq_eq {a b : Option (List AV × H)} (h : resBeq a b = true) : a = b := by
  cases a <;> cases b <;> simp [resBeq] at h
  rename_i a b
  rw [Prod.ext (AV.beqs_eq _ _ h.1) (H.beq_eq h.2)]

def arunIdx (P : Program) (S : Summ) (β : Base) (ops : Array Oper) : List Nat → List AV → H → Option (List AV × H)
  | [], A, h => some (A, h)
  | i :: rest, A, h =>
    match ops[i]? with
    | none => none
    | some o =>
      match awant ops A o with
      | some true =>
        match aop P S β o A h with
        | some (v, h') => arunIdx P S β ops rest (putA A o.dst v) h'
        | none => none
      | some false => arunIdx P S β ops rest (putA A o.dst .undef) h
      | none => none

def orders (ops : Array Oper) : Nat → Array Bool → List (List Nat)
  | 0, _ => [[]]
  | fuel + 1, listed =>
    match Region.ready .any ops listed with
    | [] => [[]]
    | rs => rs.flatMap fun i => (orders ops fuel (listed.setIfInBounds i true)).map (i :: ·)

def Dall (P : Program) (S : Summ) : Base → Draws := fun β ops A h =>
  match (orders ops ops.size (Array.replicate ops.size false)).map fun l => arunIdx P S β ops l A h with
  | r :: rest => if rest.all (resBeq r) then r else none
  | [] => none

section
variable {P : Program}

theorem orders_ok {S : Summ} (hS : SummOk P S) {β : Base} {ops : Array Oper} {Q : Exit → Act → World → Prop} {G0 : Ghost} {h0 : H} {w0 : World} {A' : List AV} {h' : H} (hQ : ∀ G' a' w', Step G0 h0 w0 G' h' w' → SRel G' h' w' → ARel G' A' a' → Q .normal a' w') (hβ : ∀ γ ∈ G0.bases, γ.1 ≤ β.nb) :
    ∀ (fuel : Nat) (listed : Array Bool) (A : List AV) (h : H) (G : Ghost) (w : World) (a : Act), Step G0 h0 w0 G h w → SRel G h w → ARel G A a → (fuel = 0 → Region.ready .any ops listed = []) → unlisted ops.size listed ≤ fuel → listed.size = ops.size →
      (∀ l ∈ orders ops fuel listed, arunIdx P S β ops l A h = some (A', h')) → wpAny P .any ops Q fuel listed a w
  | 0, listed, A, h, G, w, a, st, s, r, h0', _, _, hl => by
    have := hl [] (by simp [orders])
    simp only [arunIdx, Option.some.injEq, Prod.mk.injEq] at this
    obtain ⟨rfl, rfl⟩ := this
    exact ⟨h0' rfl, hQ G a w st s r⟩
  | fuel + 1, listed, A, h, G, w, a, st, s, r, _, hu, hsz, hl => by
    refine ⟨fun hnil => ?_, fun i hi => ?_⟩
    · have := hl [] (by simp [orders, hnil])
      simp only [arunIdx, Option.some.injEq, Prod.mk.injEq] at this
      obtain ⟨rfl, rfl⟩ := this
      exact hQ G a w st s r
    · have hne : Region.ready .any ops listed ≠ [] := fun e => by rw [e] at hi; cases hi
      have hi' := hi
      rw [mem_ready] at hi'
      obtain ⟨hz, o, ho, _⟩ := hi'
      have hin : i < ops.size := (Array.getElem?_eq_some_iff.1 ho).1
      have hlt : i < listed.size := by omega
      have hnot : listed.getD i false = false := by
        simp only [Array.getD_eq_getD_getElem?, Array.getElem?_eq_getElem hlt, Option.getD_some] at hz ⊢; exact hz
      have hD' : ∀ j, (listed.setIfInBounds i true).getD j false = (decide (j = i) || listed.getD j false) := fun j => by
        simp only [Array.getD_eq_getD_getElem?, Array.getElem?_setIfInBounds]
        by_cases hji : i = j
        · subst hji; simp [hlt]
        · simp [hji, Ne.symm hji]
      have hun : unlisted ops.size (listed.setIfInBounds i true) ≤ fuel := by
        have : unlisted ops.size (listed.setIfInBounds i true) < unlisted ops.size listed := by
          refine filter_lt (x := i) (by simpa using hin) (by simp [hnot]) (by rw [hD']; simp) (fun y _ hy => ?_)
          rw [hD'] at hy
          simp only [Bool.not_or, Bool.and_eq_true] at hy
          exact hy.2
        omega
      have hsub : ∀ l ∈ orders ops fuel (listed.setIfInBounds i true), arunIdx P S β ops (i :: l) A h = some (A', h') := fun l hl' => by
        refine hl (i :: l) ?_
        simp only [orders]
        exact List.mem_flatMap.2 ⟨i, hi, List.mem_map.2 ⟨l, hl', rfl⟩⟩
      have hzero : fuel = 0 → Region.ready .any ops (listed.setIfInBounds i true) = [] := fun hf => by
        subst hf
        apply List.eq_nil_iff_forall_not_mem.2
        intro j hj
        rw [mem_ready] at hj
        obtain ⟨h1, oj, hoj, _⟩ := hj
        have hjn : j < ops.size := (Array.getElem?_eq_some_iff.1 hoj).1
        have hjl : j < (listed.setIfInBounds i true).size := by simp; omega
        have h2 : ((List.range ops.size).filter fun k => !(listed.setIfInBounds i true).getD k false) = [] := List.eq_nil_of_length_eq_zero (by unfold unlisted at hun; omega)
        have h3 := List.filter_eq_nil_iff.1 h2 j (by simpa using hjn)
        simp only [Array.getD_eq_getD_getElem?, Array.getElem?_eq_getElem hjl, Option.getD_some] at h1 h3
        rw [h1] at h3; simp at h3
      unfold wpOp
      simp only [ho]
      cases hw : awant ops A o with
      | none =>
        -- no order at all would be left: there is one
        have : ∃ l, l ∈ orders ops fuel (listed.setIfInBounds i true) := by
          have gen : ∀ (n : Nat) (ls : Array Bool), ∃ l, l ∈ orders ops n ls := by
            intro n
            induction n with
            | zero => intro ls; exact ⟨[], by simp [orders]⟩
            | succ n ih =>
              intro ls
              simp only [orders]
              split
              · exact ⟨[], by simp⟩
              · rename_i rs hrs
                cases hc : Region.ready .any ops ls with
                | nil => exact absurd hc (by assumption)
                | cons x xs =>
                  obtain ⟨l, hl⟩ := ih (ls.setIfInBounds x true)
                  exact ⟨x :: l, List.mem_flatMap.2 ⟨x, by simp, List.mem_map.2 ⟨l, hl, rfl⟩⟩⟩
          exact gen _ _
        obtain ⟨l, hl'⟩ := this
        have := hsub l hl'
        simp [arunIdx, ho, hw] at this
      | some b =>
        rw [awant_ok r hw]
        cases b
        · simp only [Bool.false_eq_true, if_false]
          refine orders_ok hS hQ hβ fuel _ _ h G w _ st s (put_rel r (undef_rel G) o.dst) hzero hun (by simpa using hsz) (fun l hl' => ?_)
          have := hsub l hl'
          simpa [arunIdx, ho, hw] using this
        · simp only [if_true]
          left
          cases hop : aop P S β o A h with
          | none =>
            have : ∃ l, l ∈ orders ops fuel (listed.setIfInBounds i true) := by
              have gen : ∀ (n : Nat) (ls : Array Bool), ∃ l, l ∈ orders ops n ls := by
                intro n
                induction n with
                | zero => intro ls; exact ⟨[], by simp [orders]⟩
                | succ n ih =>
                  intro ls
                  simp only [orders]
                  split
                  · exact ⟨[], by simp⟩
                  · rename_i rs hrs
                    cases hc : Region.ready .any ops ls with
                    | nil => exact absurd hc (by assumption)
                    | cons x xs =>
                      obtain ⟨l, hl⟩ := ih (ls.setIfInBounds x true)
                      exact ⟨x :: l, List.mem_flatMap.2 ⟨x, by simp, List.mem_map.2 ⟨l, hl, rfl⟩⟩⟩
              exact gen _ _
            obtain ⟨l, hl'⟩ := this
            have := hsub l hl'
            simp [arunIdx, ho, hw, hop] at this
          | some q =>
            obtain ⟨v, h1⟩ := q
            refine aop_ok hS s (by rw [st.bases]; exact hβ) r hop (fun G1 w1 u st1 s1 hv => ?_)
            refine orders_ok hS hQ hβ fuel _ _ h1 G1 w1 _ (st.trans st1) s1 (put_rel (r.mono st1.le) hv o.dst) hzero hun (by simpa using hsz) (fun l hl' => ?_)
            have := hsub l hl'
            simpa [arunIdx, ho, hw, hop] using this

theorem dall_ok {S : Summ} (hm : P.follows .mixedOrders = true) (hS : SummOk P S) : DrawsOk P (Dall P S) := by
  intro β ops A h A' h' he G w a s hβ r id Q hQ
  refine wp_region_any hm ?_
  have hall : ∀ l ∈ orders ops ops.size (Array.replicate ops.size false), arunIdx P S β ops l A h = some (A', h') := by
    intro l hl
    simp only [Dall] at he
    split at he
    · rename_i r0 rest hr0
      split at he
      · rename_i hb
        have hm : arunIdx P S β ops l A h ∈ r0 :: rest := by rw [← hr0]; exact List.mem_map.2 ⟨l, hl, rfl⟩
        rcases List.mem_cons.1 hm with e | e
        · rw [e]; exact he
        · have := List.all_eq_true.1 hb _ e
          rw [← resBeq_eq this]; exact he
      · cases he
    · cases he
  have hun : unlisted ops.size (Array.replicate ops.size false) ≤ ops.size := by
    unfold unlisted
    have := List.length_filter_le (fun i => !(Array.replicate ops.size false).getD i false) (List.range ops.size)
    simpa using this
  refine orders_ok hS (G0 := G) (h0 := h) (w0 := w) hQ hβ ops.size _ A h G _ a (Step.drawn G h w _) (s.drawn _) r (fun h0 => ?_) hun (by simp) hall
  apply List.eq_nil_iff_forall_not_mem.2
  intro j hj
  rw [mem_ready] at hj
  obtain ⟨_, o, ho, _⟩ := hj
  have := (Array.getElem?_eq_some_iff.1 ho).1
  omega

/-! ### whole trees of calls -/
def pureOf (S : Summ) : Pures := fun f args =>
  if AV.bnds 0 0 0 args then
    match S f args .nil with
    | some (v, ⟨[], [], []⟩) => if v.bnd 0 0 0 then some v else none
    | _ => none
  else none

theorem pureOf_ok {S : Summ} (hS : SummOk P S) : PureOk P (pureOf S) := by
  intro f args v he
  simp only [pureOf] at he
  split at he
  · rename_i ha
    split at he
    · rename_i v0 hv0
      split at he
      · rename_i hb
        simp only [Option.some.injEq] at he; subst he
        obtain ⟨h1, h2⟩ := hS _ _ _ _ _ hv0
        exact ⟨h1, fun h => pure_call h2 ha hb h⟩
      · cases he
    · cases he
  · cases he

/-- special: functions whose regions are tried order by order -/
def deep (P : Program) (special : FuncId → Bool) (fuel : Nat) (S0 : Summ) : Nat → Summ
  | 0 => S0
  | d + 1 => fun f args h =>
    match S0 f args h with
    | some r => some r
    | none =>
      if callable P f then
        let S := deep P special fuel S0 d
        acall P S (if special f then Dall P S else Darun P (pureOf S)) fuel f args h
      else none

theorem acall_simple {S : Summ} {p : Pures} {n : Nat} {f : FuncId} (hs : ∀ fn c, P.funcs[f]? = some fn → fn.body = some c → allSimple c = true) (args : List AV) (h : H) : acall P S (Darun P p) n f args h = acall P S (Dsafe P p) n f args h := by
  unfold acall
  split
  · rename_i fn hfn
    split
    · rename_i c hc
      rw [exec_simple c (hs fn c hfn hc)]
    · rfl
  · rfl

theorem deep_ok {special : FuncId → Bool} {fuel : Nat} {S0 : Summ} (hm : P.follows .mixedOrders = true) (h0 : SummOk P S0) (hs : ∀ f fn c, special f = false → P.funcs[f]? = some fn → fn.body = some c → allSimple c = true) : ∀ d, SummOk P (deep P special fuel S0 d)
  | 0 => h0
  | d + 1 => by
    intro f args h v h' he
    have ih := deep_ok (fuel := fuel) hm h0 hs d
    simp only [deep] at he
    split at he
    · rename_i r hr
      simp only [Option.some.injEq] at he; subst he
      exact h0 _ _ _ _ _ hr
    · split at he
      · rename_i hc
        refine ⟨hc, ?_⟩
        split at he
        · exact acall_ok ih (dall_ok hm ih) he
        · rename_i hsp
          rw [acall_simple (fun fn c h1 h2 => hs f fn c (by simpa using hsp) h1 h2)] at he
          exact acall_ok ih (dsafe_ok hm (pureOf_ok ih)) he
      · cases he
end
end Go.VM
