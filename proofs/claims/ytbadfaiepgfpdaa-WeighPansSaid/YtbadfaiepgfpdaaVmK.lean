/- Whole bodies: regions, branches, loops. -/
import Derived.Test.YtbadfaiepgfpdaaVmJ
import Derived.LoopN
import Derived.Scope
namespace Go.VM

inductive AX where
  | normal | exit (n : Nat) | ret
  deriving DecidableEq, Inhabited
def AX.toExit : AX → Exit
  | .normal => .normal
  | .exit n => .exit n
  | .ret => .ret

def awant (ops : Array Oper) (A : List AV) (o : Oper) : Option Bool :=
  match o.guard with
  | none => some true
  | some (j, want) =>
    match (ops[j]?).bind (·.dst) with
    | none => some false
    | some d =>
      match A[d]? with
      | some (.bool b) => some (b == want)
      | some (.tup _) => some false
      | none => some false
      | _ => none

def arun (P : Program) (S : Summ) (β : Base) (ops : Array Oper) : List Oper → List AV → H → Option (List AV × H)
  | [], A, h => some (A, h)
  | o :: rest, A, h =>
    match awant ops A o with
    | some true =>
      match aop P S β o A h with
      | some (v, h') => arun P S β ops rest (putA A o.dst v) h'
      | none => none
    | some false => arun P S β ops rest (putA A o.dst .undef) h
    | none => none

section
variable {P : Program} {G : Ghost} {h : H} {w : World}

theorem awant_ok {ops : Array Oper} {A : List AV} {a : Act} (r : ARel G A a) {o : Oper} {b : Bool} (hw : awant ops A o = some b) : Region.wanted o (yielded ops a.tmps) = b := by
  unfold awant at hw
  unfold Region.wanted
  split at hw
  · rename_i hg; simp only [Option.some.injEq] at hw; simp [hg, hw]
  · rename_i j want hg
    simp only [hg]
    split at hw
    · rename_i hd
      simp only [Option.some.injEq] at hw; subst hw
      simp [yielded, hd]
    · rename_i d hd
      simp only [yielded, hd, Option.bind_some]
      split at hw
      · rename_i x hx
        simp only [Option.some.injEq] at hw; subst hw
        obtain ⟨u, hu, hr⟩ := r.tmps.get d _ hx
        simp only [VRel] at hr; subst hr
        have : a.tmps[d]? = some (.bool x) := by simpa using hu
        simp [this]
      · rename_i vs hx
        simp only [Option.some.injEq] at hw; subst hw
        obtain ⟨u, hu, hr⟩ := r.tmps.get d _ hx
        simp only [VRel] at hr
        obtain ⟨us, rfl, _⟩ := hr
        have : a.tmps[d]? = some (.tuple us) := by simpa using hu
        simp [this]
      · rename_i hx
        simp only [Option.some.injEq] at hw; subst hw
        have hl := r.tmps.length
        have : a.tmps[d]? = none := by
          rw [List.getElem?_eq_none_iff] at hx
          apply Array.getElem?_eq_none
          simp only [Array.length_toList] at hl
          omega
        simp [this]
      · cases hw

theorem arun_ok {S : Summ} (hS : SummOk P S) {β : Base} {ops : Array Oper} {Q : Exit → Act → World → Prop} : ∀ (l : List Oper) (k : Nat) (A : List AV) (h : H) (G : Ghost) (w : World) (a : Act) (A' : List AV) (h' : H), (∀ j, l[j]? = ops[k + j]?) →
    SRel G h w → (∀ γ ∈ G.bases, γ.1 ≤ β.nb) → ARel G A a → arun P S β ops l A h = some (A', h') →
    (∀ G' a' w', Step G h w G' h' w' → SRel G' h' w' → ARel G' A' a' → Q .normal a' w') → wpOps P ops Q (List.range' k l.length) a w
  | [], k, A, h, G, w, a, A', h', _, s, hβ, r, he, hQ => by
    simp only [arun, Option.some.injEq, Prod.mk.injEq] at he
    obtain ⟨rfl, rfl⟩ := he
    simpa [wpOps] using hQ G a w (.refl _ _ _) s r
  | o :: l, k, A, h, G, w, a, A', h', hl, s, hβ, r, he, hQ => by
    have h0 : ops[k]? = some o := by simpa using (hl 0).symm
    have hl' : ∀ j, l[j]? = ops[k + 1 + j]? := fun j => by have := hl (j + 1); simpa [Nat.add_assoc, Nat.add_comm 1 j] using this
    simp only [List.length_cons, List.range'_succ, wpOps, h0]
    simp only [arun] at he
    split at he
    · rename_i hw
      rw [awant_ok r hw, if_pos rfl]
      split at he
      · rename_i v h1 hop
        left
        refine aop_ok hS s hβ r hop (fun G1 w1 u st1 s1 hv => ?_)
        exact arun_ok hS l (k + 1) _ h1 G1 w1 _ A' h' hl' s1 (by rw [st1.bases]; exact hβ) (put_rel (r.mono st1.le) hv o.dst) he
          (fun G' a' w' st s' r' => hQ G' a' w' (st1.trans st) s' r')
      · cases he
    · rename_i hw
      rw [awant_ok r hw]
      simp only [Bool.false_eq_true, if_false]
      exact arun_ok hS l (k + 1) _ h G w _ A' h' hl' s hβ (put_rel r (undef_rel G) o.dst) he hQ
    · cases he
end

def iter (f : List AV → H → Option (AX × List AV × H)) : Nat → List AV → H → Option (AX × List AV × H)
  | 0, _, _ => none
  | n + 1, A, h =>
    match f A h with
    | some (.normal, A', h') => iter f n A' h'
    | r => r

/-- how a region that draws its order is read: told by the caller -/
abbrev Draws := Array Oper → List AV → H → Option (List AV × H)

def exec (P : Program) (S : Summ) (D : Base → Draws) (β : Base) (n : Nat) : Code → List AV → H → Option (AX × List AV × H)
  | .skip, A, h => some (.normal, A, h)
  | .label _, A, h => some (.normal, A, h)
  | .region _ ops false, A, h => (arun P S β ops ops.toList A h).map fun (A, h) => (.normal, A, h)
  | .region _ ops true, A, h => (D β ops A h).map fun (A, h) => (.normal, A, h)
  | .seq x y, A, h =>
    match exec P S D β n x A h with
    | some (.normal, A', h') => exec P S D β n y A' h'
    | r => r
  | .cond c x y, A, h =>
    match aev A c with
    | .bool true => exec P S D β n x A h
    | .bool false => exec P S D β n y A h
    | _ => none
  | .block id c, A, h =>
    match exec P S D β n c A h with
    | some (.exit i, A', h') => if i = id then some (.normal, A', h') else some (.exit i, A', h')
    | r => r
  | .loop c, A, h => iter (exec P S D β n c) n A h
  | .exit id, A, h => some (.exit id, A, h)
  | .scope c, A, h => exec P S D β n c A h
  | .ret, A, h => some (.ret, A, h)
  | _, _, _ => none

def DrawsOk (P : Program) (D : Base → Draws) : Prop :=
  ∀ (β : Base) (ops : Array Oper) (A : List AV) (h : H) (A' : List AV) (h' : H), D β ops A h = some (A', h') → ∀ (G : Ghost) (w : World) (a : Act), SRel G h w → (∀ γ ∈ G.bases, γ.1 ≤ β.nb) → ARel G A a →
    ∀ (id : Nat) (Q : Exit → Act → World → Prop), (∀ G' a' w', Step G h w G' h' w' → SRel G' h' w' → ARel G' A' a' → Q .normal a' w') → (Code.region id ops true).wp P Q a w

section
variable {P : Program} {G : Ghost} {h : H} {w : World}

def CodeOk (P : Program) (β : Base) (c : Code) (A : List AV) (h : H) (x : AX) (A' : List AV) (h' : H) : Prop :=
  ∀ (G : Ghost) (w : World) (a : Act), SRel G h w → (∀ γ ∈ G.bases, γ.1 ≤ β.nb) → ARel G A a →
    ∀ (Q : Exit → Act → World → Prop), (∀ G' a' w', Step G h w G' h' w' → SRel G' h' w' → ARel G' A' a' → Q x.toExit a' w') → c.wp P Q a w

theorem iter_ok {β : Base} {c : Code} {f : List AV → H → Option (AX × List AV × H)} (hf : ∀ A h x A' h', f A h = some (x, A', h') → CodeOk P β c A h x A' h') :
    ∀ (n : Nat) (A : List AV) (h : H) (x : AX) (A' : List AV) (h' : H), iter f n A h = some (x, A', h') → ∀ (G : Ghost) (w : World) (a : Act), SRel G h w → (∀ γ ∈ G.bases, γ.1 ≤ β.nb) → ARel G A a →
      ∀ (Q : Exit → Act → World → Prop), (∀ G' a' w', Step G h w G' h' w' → SRel G' h' w' → ARel G' A' a' → Q x.toExit a' w') → Code.rounds P c Q n a w
  | 0, A, h, x, A', h', he, G, w, a, s, hβ, r, Q, hQ => by simp [iter] at he
  | n + 1, A, h, x, A', h', he, G, w, a, s, hβ, r, Q, hQ => by
    simp only [iter] at he
    rw [rounds_succ]
    split at he
    · rename_i A1 h1 hb
      refine hf _ _ _ _ _ hb G w a s hβ r _ (fun G1 a1 w1 st1 s1 r1 => ?_)
      exact iter_ok hf n A1 h1 x A' h' he G1 w1 a1 s1 (by rw [st1.bases]; exact hβ) r1 Q (fun G' a' w' st s' r' => hQ G' a' w' (st1.trans st) s' r')
    · rename_i hne
      refine hf _ _ _ _ _ he G w a s hβ r _ (fun G1 a1 w1 st1 s1 r1 => ?_)
      have hq := hQ G1 a1 w1 st1 s1 r1
      cases x
      · exact absurd he (hne _ _)
      · exact hq
      · exact hq

theorem exec_ok {S : Summ} (hS : SummOk P S) {D : Base → Draws} (hD : DrawsOk P D) {β : Base} {n : Nat} : ∀ (c : Code) (A : List AV) (h : H) (x : AX) (A' : List AV) (h' : H), exec P S D β n c A h = some (x, A', h') → CodeOk P β c A h x A' h' := by
  intro c
  induction c with
  | skip =>
    intro A h x A' h' he G w a s hβ r Q hQ
    simp only [exec, Option.some.injEq, Prod.mk.injEq] at he; obtain ⟨rfl, rfl, rfl⟩ := he
    exact wp_skip (hQ G a w (.refl _ _ _) s r)
  | label l =>
    intro A h x A' h' he G w a s hβ r Q hQ
    simp only [exec, Option.some.injEq, Prod.mk.injEq] at he; obtain ⟨rfl, rfl, rfl⟩ := he
    exact wp_label (hQ G a w (.refl _ _ _) s r)
  | region id ops draw =>
    intro A h x A' h' he G w a s hβ r Q hQ
    cases draw
    · simp only [exec, Option.map_eq_some_iff] at he
      obtain ⟨⟨A1, h1⟩, hrun, he⟩ := he
      simp only [Prod.mk.injEq] at he; obtain ⟨rfl, rfl, rfl⟩ := he
      refine wp_region ?_
      have := arun_ok hS (Q := Q) ops.toList 0 A h G w a A1 h1 (by simp) s hβ r hrun hQ
      rwa [← List.range_eq_range', Array.length_toList] at this
    · simp only [exec, Option.map_eq_some_iff] at he
      obtain ⟨⟨A1, h1⟩, hrun, he⟩ := he
      simp only [Prod.mk.injEq] at he; obtain ⟨rfl, rfl, rfl⟩ := he
      exact hD β ops A h A1 h1 hrun G w a s hβ r id Q hQ
  | seq x y ihx ihy =>
    intro A h x0 A' h' he G w a s hβ r Q hQ
    simp only [exec] at he
    refine wp_seq ?_
    split at he
    · rename_i A1 h1 hx
      refine ihx _ _ _ _ _ hx G w a s hβ r _ (fun G1 a1 w1 st1 s1 r1 => ?_)
      exact ihy _ _ _ _ _ he G1 w1 a1 s1 (by rw [st1.bases]; exact hβ) r1 Q (fun G' a' w' st s' r' => hQ G' a' w' (st1.trans st) s' r')
    · rename_i hne
      refine ihx _ _ _ _ _ he G w a s hβ r _ (fun G1 a1 w1 st1 s1 r1 => ?_)
      have hq := hQ G1 a1 w1 st1 s1 r1
      cases x0
      · exact absurd he (hne _ _)
      · exact hq
      · exact hq
  | cond c x y ihx ihy =>
    intro A h x0 A' h' he G w a s hβ r Q hQ
    simp only [exec] at he
    have hc := aev_rel r c
    split at he
    · rename_i hb; rw [hb] at hc; simp only [VRel] at hc
      exact wp_cond_true hc (ihx _ _ _ _ _ he G w a s hβ r Q hQ)
    · rename_i hb; rw [hb] at hc; simp only [VRel] at hc
      exact wp_cond_false hc (ihy _ _ _ _ _ he G w a s hβ r Q hQ)
    · cases he
  | block id c ih =>
    intro A h x0 A' h' he G w a s hβ r Q hQ
    simp only [exec] at he
    refine wp_block ?_
    split at he
    · rename_i i A1 h1 hx
      split at he
      · rename_i hi
        simp only [Option.some.injEq, Prod.mk.injEq] at he; obtain ⟨rfl, rfl, rfl⟩ := he
        refine ih _ _ _ _ _ hx G w a s hβ r _ (fun G1 a1 w1 st1 s1 r1 => ?_)
        simp only [AX.toExit, Exit.inBlock, hi, if_true]
        exact hQ G1 a1 w1 st1 s1 r1
      · rename_i hi
        simp only [Option.some.injEq, Prod.mk.injEq] at he; obtain ⟨rfl, rfl, rfl⟩ := he
        refine ih _ _ _ _ _ hx G w a s hβ r _ (fun G1 a1 w1 st1 s1 r1 => ?_)
        simp only [AX.toExit, Exit.inBlock, hi, if_false]
        exact hQ G1 a1 w1 st1 s1 r1
    · rename_i hne
      refine ih _ _ _ _ _ he G w a s hβ r _ (fun G1 a1 w1 st1 s1 r1 => ?_)
      have hq := hQ G1 a1 w1 st1 s1 r1
      cases x0
      · exact hq
      · exact absurd he (hne _ _ _)
      · exact hq
  | loop c ih =>
    intro A h x0 A' h' he G w a s hβ r Q hQ
    simp only [exec] at he
    exact wp_loop_rounds n (iter_ok (fun A h x A' h' hh => ih A h x A' h' hh) n A h x0 A' h' he G w a s hβ r Q hQ)
  | exit id =>
    intro A h x A' h' he G w a s hβ r Q hQ
    simp only [exec, Option.some.injEq, Prod.mk.injEq] at he; obtain ⟨rfl, rfl, rfl⟩ := he
    exact wp_exit (hQ G a w (.refl _ _ _) s r)
  | scope c ih =>
    intro A h x0 A' h' he G w a s hβ r Q hQ
    simp only [exec] at he
    refine wp_scope_straight ?_
    refine ih _ _ _ _ _ he G w a s hβ r _ (fun G1 a1 w1 st1 s1 r1 => ?_)
    have hq := hQ G1 a1 w1 st1 s1 r1
    cases x0 <;> exact hq
  | ret =>
    intro A h x A' h' he G w a s hβ r Q hQ
    simp only [exec, Option.some.injEq, Prod.mk.injEq] at he; obtain ⟨rfl, rfl, rfl⟩ := he
    exact wp_ret (hQ G a w (.refl _ _ _) s r)
  | rangeFunc f p x y _ _ => intro A h x0 A' h' he; simp [exec] at he
  | goto l => intro A h x0 A' h' he; simp [exec] at he
  | refuse y => intro A h x0 A' h' he; simp [exec] at he
end
end Go.VM
