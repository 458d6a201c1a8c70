/- Calls. -/
import Derived.Test.YtbadfaiepgfpdaaVmL
namespace Go.VM

def resv (P : Program) (h : H) (A : List AV) : ResultVar → Option AV
  | .tmp t => some (A.getD t .undef)
  | .cell a t => match h.target (A.getD a .undef) with
    | some cs => aLoad P t cs
    | none => none
def resvs (P : Program) (h : H) (A : List AV) : List ResultVar → Option (List AV)
  | [] => some []
  | r :: rs => match resv P h A r, resvs P h A rs with
    | some v, some vs => some (v :: vs)
    | _, _ => none
def oneOrTup : List AV → AV
  | [v] => v
  | vs => .tup vs

def acall (P : Program) (S : Summ) (D : Base → Draws) (n : Nat) (f : FuncId) (args : List AV) (h : H) : Option (AV × H) :=
  match P.funcs[f]? with
  | some fn =>
    match fn.body with
    | some c =>
      match exec P S D h.base n c (args ++ List.replicate (fn.ntmps - args.length) .undef) h with
      | some (.exit _, _, _) => none
      | some (_, A, h1) =>
        match resvs P h1 A fn.results.toList with
        | some vs => some (leave h.base (oneOrTup vs) h1)
        | none => none
      | none => none
    | none => none
  | none => none

section
variable {P : Program} {G : Ghost} {h : H} {w : World}

theorem resvs_ok (s : SRel G h w) {A : List AV} {a : Act} (r : ARel G A a) : ∀ (rs : List ResultVar) (vs : List AV), resvs P h A rs = some vs →
    ∃ us : List Value, (rs.mapM (fun x => (match x with | .tmp t => pure (a.tmps.getD t undef) | .cell p t => do loadVar t (← asAddr (a.tmps.getD p undef)) : Sem Value))).run P w = .ok us w ∧ VRels G vs us
  | [], vs, he => by
    simp only [resvs, Option.some.injEq] at he; subst he
    exact ⟨[], rfl, by simp [VRels]⟩
  | x :: rs, vs, he => by
    simp only [resvs] at he
    split at he
    · rename_i v vs' hv hvs
      simp only [Option.some.injEq] at he; subst he
      obtain ⟨us, h1, h2⟩ := resvs_ok s r rs vs' hvs
      have hx : ∃ u, (match x with | .tmp t => pure (a.tmps.getD t undef) | .cell p t => do loadVar t (← asAddr (a.tmps.getD p undef)) : Sem Value).run P w = .ok u w ∧ VRel G v u := by
        cases x with
        | tmp t =>
          simp only [resv, Option.some.injEq] at hv; subst hv
          exact ⟨_, rfl, aev_rel r (.tmp t)⟩
        | cell p t =>
          simp only [resv] at hv
          split at hv
          · rename_i cs hcs
            have hp := aev_rel r (.tmp p)
            obtain ⟨u, g1, g2⟩ := load_quiet (P := P) s hp hcs hv
            obtain ⟨c, o, vs0, e, _⟩ := target_rel s hp hcs
            simp only [Act.eval] at g1 e
            rw [e] at g1
            simp only [Instr.loadAt, Instr.sureAddr, Sem.run_bind, Sem.run_pure, Result.andThen_ok] at g1
            refine ⟨u, ?_, g2⟩
            simp only [e, asAddr, Sem.run_bind, Sem.run_pure, Result.andThen_ok]
            exact g1
          · cases hv
      obtain ⟨u, hu1, hu2⟩ := hx
      refine ⟨u :: us, ?_, by simp only [VRels]; exact ⟨u, us, rfl, hu2, h2⟩⟩
      rw [List.mapM_cons]
      simp only [Sem.run_bind, hu1, h1, Result.andThen_ok, Sem.run_pure]
    · cases he

theorem results_ok (s : SRel G h w) {A : List AV} {a : Act} (r : ARel G A a) {fn : Func} {vs : List AV} (he : resvs P h A fn.results.toList = some vs) :
    ∃ u, (results fn a.tmps).run P w = .ok u w ∧ VRel G (oneOrTup vs) u := by
  obtain ⟨us, h1, h2⟩ := resvs_ok s r _ _ he
  have hrun : (fn.results.mapM (fun x => (match x with | .tmp t => pure (a.tmps.getD t undef) | .cell p t => do loadVar t (← asAddr (a.tmps.getD p undef)) : Sem Value))).run P w = .ok us.toArray w := by
    rw [Array.mapM_eq_mapM_toList]
    simp only [Sem.run_map, h1, Result.andThen_ok]
  refine ⟨if hs : us.toArray.size = 1 then us.toArray[0] else .tuple us.toArray, ?_, ?_⟩
  · unfold results
    erw [Sem.run_bind, hrun]
    rfl
  · match vs, us, h2 with
    | [], us, h2 => simp only [VRels] at h2; subst h2; simp [oneOrTup, VRel, VRels]
    | [v], us, h2 => obtain ⟨u, rfl, hu⟩ := rels_one' h2; simpa [oneOrTup] using hu
    | v :: v2 :: rest, us, h2 =>
      have hl := h2.length
      have : ¬ us.toArray.size = 1 := by simp at hl ⊢; omega
      rw [dif_neg this]
      simp only [oneOrTup, VRel]
      exact ⟨_, rfl, h2⟩

/-- what leaving makes of a value and its tokens -/
def RetGood (G G' : Ghost) (h : H) (nt : Nat) (u : Value) (p : AV × List Nat) : Prop :=
  ∃ ot : Option (Nat × Nat), p.2 = newToks ot ∧ (∀ t0 N, ot = some (t0, N) → nt ≤ t0 ∧ h.toks[t0]? = some N) ∧
      ∀ G'' : Ghost, G'.Le G'' → (∀ t0 N, ot = some (t0, N) → ∀ x, G.tk t0 N = some x → G''.tk nt N = some x) → VRel G'' p.1 u

theorem retok_rel {G' : Ghost} {nt : Nat} {v v1 : AV} {u : Value} (hv : VRel G v u) (hv1 : VRel G' v1 u) : RetGood G G' h nt u (retok nt h v v1) := by
  have key : ∀ {cs cs1 : List AV} {n n1 t z : Nat} {r : Room} {u : Value} {G'' : Ghost}, VRel G (.sl cs n (.tok t z)) u → VRel G' (.sl cs1 n1 r) u → n1 = n → G'.Le G'' → (∀ x, G.tk t n = some x → G''.tk nt n = some x) → VRel G'' (.sl cs1 n (.tok nt z)) u := by
    intro cs cs1 n n1 t z r u G'' h1 h2 hn hle ht
    subst hn
    simp only [VRel] at h1 h2 ⊢
    rcases h1 with ⟨hq, _⟩ | ⟨c, o, cap, vs, rfl, a1, a2, a3, a4, a5⟩
    · cases hq
    · rcases h2 with ⟨_, _, _, hq⟩ | ⟨c', o', cap', vs', e, b1, b2, b3, b4, b5⟩
      · cases hq
      · cases e
        exact .inr ⟨c, o, cap, vs', rfl, b1, b2, ⟨a3.1, ht _ a3.2⟩, VRels.mono hle _ _ b4, fun i u hu => hle.fr _ _ _ (b5 i u hu)⟩
  have none' : RetGood G G' h nt u (v1, []) := ⟨none, rfl, (by intro _ _ h; cases h), fun G'' hle _ => VRel.mono hle _ _ hv1⟩
  unfold retok
  split
  · rename_i cs n t z cs1 n1 r
    split
    · rename_i hc
      obtain ⟨c1, c2, c3⟩ := hc
      refine ⟨some (t, n), rfl, fun t0 N e => by cases e; exact ⟨c1, c2⟩, fun G'' hle ht => ?_⟩
      exact key hv hv1 c3 hle (fun x hx => ht t n rfl x hx)
    · exact none'
  · rename_i cs n t z rest0 cs1 n1 r rest
    split
    · rename_i hc
      obtain ⟨c1, c2, c3⟩ := hc
      refine ⟨some (t, n), rfl, fun t0 N e => by cases e; exact ⟨c1, c2⟩, fun G'' hle ht => ?_⟩
      simp only [VRel] at hv hv1 ⊢
      obtain ⟨us, rfl, hs⟩ := hv
      obtain ⟨us1, e, hs1⟩ := hv1
      cases e
      simp only [VRels] at hs hs1 ⊢
      obtain ⟨u0, us0, e0, g1, g2⟩ := hs
      obtain ⟨u1, us1, e1, g3, g4⟩ := hs1
      rw [e0] at e1; cases e1
      exact ⟨us, rfl, u0, us0, e0, key g1 g3 c3 hle (fun x hx => ht t n rfl x hx), VRels.mono hle _ _ g4⟩
    · exact none'
  · exact none'

theorem Calls.conseq' {f : FuncId} {args : Array Value} {R R' : Ending → World → Prop} (hc : Calls P f args w R) (hr : ∀ e w', R e w' → R' e w') : Calls P f args w R' := hc.mono hr

theorem leave_ok {v : AV} {u : Value} {G0 : Ghost} {h0 : H} {w0 : World} (s0 : SRel G0 h0 w0) (s : SRel G h w) (st : Step { G0 with bases := (h0.blk.length, h0.toks.length, h0.maps.length) :: G0.bases } h0 w0 G h w) (hv : VRel G v u) {v' : AV} {h' : H} (he : leave h0.base v h = (v', h')) :
    ∃ G', SRel G' h' w ∧ Step G0 h0 w0 G' h' w ∧ VRel G' v' u := by
  have hmem : (h0.blk.length, h0.toks.length, h0.maps.length) ∈ G.bases := by rw [st.bases]; simp
  have hbs : ∀ β ∈ G0.bases, β ∈ G.bases ∧ β.1 ≤ h0.blk.length ∧ β.2.1 ≤ h0.toks.length ∧ β.2.2 ≤ h0.maps.length := fun β hβ => by
    obtain ⟨h1, h2, h3, _⟩ := s0.bases β hβ
    refine ⟨by rw [st.bases]; simp [hβ], h1, h2, h3⟩
  obtain ⟨b1, b2, b3, _⟩ := s.bases _ hmem
  simp only at b1 b2 b3
  have hle0 : ∀ (nm' : Nat) (ot : Option (Nat × Nat)), h0.maps.length ≤ nm' → G0.Le (G.leave w h0.blk.length h0.toks.length nm' ot G0.bases) := fun nm' ot hm => by
    refine ⟨fun b c hq => ?_, fun c o x hq => ?_, fun t n x hq => ?_, fun m c hq => ?_⟩
    · simp only [Ghost.leave, if_pos (s0.dom.φ b c hq)]; exact st.le.φ b c hq
    · have := st.le.fr c o x hq
      simp only [Ghost.leave]
      split
      · exact s.fr c o x this
      · exact this
    · simp only [Ghost.leave, if_pos (s0.dom.tk t n x hq)]; exact st.le.tk t n x hq
    · have := s0.dom.mp m c hq
      simp only [Ghost.leave]; rw [if_pos (by omega)]; exact st.le.mp m c hq
  have hpend : ∀ (nm' : Nat) (ot : Option (Nat × Nat)), (∀ b c, (G.leave w h0.blk.length h0.toks.length nm' ot G0.bases).φ b = some c → b < h0.blk.length → G0.φ b = some c) ∧ h0.blk.length ≤ (h.blk.take h0.blk.length).length := fun nm' ot => by
    refine ⟨fun b c hq hl => st.pend.1 b c ?_ hl, by simp; omega⟩
    simp only [Ghost.leave, if_pos hl] at hq; exact hq
  have hfrn : ∀ (nm' : Nat) (ot : Option (Nat × Nat)) (c o : Nat) (x : Value), (G.leave w h0.blk.length h0.toks.length nm' ot G0.bases).fr c o = some x → G0.fr c o = some x ∨ w0.heap.size ≤ c ∨ Own G0 h0 c := fun nm' ot c o x hx => by
    simp only [Ghost.leave] at hx
    split at hx
    · rename_i hc
      obtain ⟨b, _, hb⟩ := hc
      rcases st.own c (.inl ⟨b, hb⟩) with q | q
      · exact .inr (.inr q)
      · exact .inr (.inl q)
    · exact st.frnew c o x hx
  have hown0 : ∀ c, Own { G0 with bases := (h0.blk.length, h0.toks.length, h0.maps.length) :: G0.bases } h0 c ↔ Own G0 h0 c := fun c => Iff.rfl
  unfold leave H.base at he
  simp only at he
  split at he
  · rename_i hb
    simp only [Prod.mk.injEq] at he
    obtain ⟨rfl, rfl⟩ := he
    obtain ⟨q1, q2, q3, q4⟩ := s.leave hmem hbs (Nat.le_refl _) b3 none (by intro _ _ h; cases h)
    simp only [newToks, List.append_nil] at q1 q3
    exact ⟨_, q1, ⟨hle0 _ _ (Nat.le_refl _), st.os, st.tape, st.output, st.size, fun c hc hn => st.keep c hc hn, fun c ho => st.own c (q3 c ho), rfl, hpend _ _, hfrn _ _⟩, VRel.below q2 _ _ hb hv⟩
  · split at he
    · rename_i hb
      have hmk : ∃ nm', h0.maps.length ≤ nm' ∧ nm' ≤ h.maps.length ∧ (frz h0.blk.length h0.toks.length h 6 v).bnd h0.blk.length h0.toks.length nm' = true ∧
          (if (frz h0.blk.length h0.toks.length h 6 v).bnd h0.blk.length h0.toks.length h0.maps.length then h.maps.take h0.maps.length else h.maps) = h.maps.take nm' := by
        by_cases hb2 : (frz h0.blk.length h0.toks.length h 6 v).bnd h0.blk.length h0.toks.length h0.maps.length = true
        · exact ⟨h0.maps.length, Nat.le_refl _, b3, hb2, by rw [if_pos hb2]⟩
        · exact ⟨h.maps.length, b3, Nat.le_refl _, hb, by rw [if_neg hb2]; simp⟩
      obtain ⟨nm', m1, m2, m3, m4⟩ := hmk
      rw [m4] at he
      -- first without a token, to have the frozen value; then with it
      obtain ⟨p1, p2, p3, p4⟩ := s.leave hmem hbs m1 m2 none (by intro _ _ h; cases h)
      have hfz := frz_rel s p2 p4 6 v u hv m3
      obtain ⟨ot, e1, e2, e3⟩ := retok_rel (h := h) (nt := h0.toks.length) hv hfz
      obtain ⟨q1, q2, q3, q4⟩ := s.leave hmem hbs m1 m2 ot e2
      have he' : v' = (retok h0.toks.length h v (frz h0.blk.length h0.toks.length h 6 v)).1 ∧ h' = ⟨h.blk.take h0.blk.length, h.toks.take h0.toks.length ++ newToks ot, h.maps.take nm'⟩ := by
        rw [← e1]
        generalize retok h0.toks.length h v (frz h0.blk.length h0.toks.length h 6 v) = rr at he
        obtain ⟨r1, r2⟩ := rr
        simp only [Prod.mk.injEq] at he
        exact ⟨he.1.symm, he.2.symm⟩
      obtain ⟨rfl, rfl⟩ := he'
      refine ⟨_, q1, ⟨hle0 _ _ m1, st.os, st.tape, st.output, st.size, fun c hc hn => st.keep c hc hn, fun c ho => st.own c (q3 c ho), rfl, hpend _ _, hfrn _ _⟩, ?_⟩
      refine e3 _ ?_ ?_
      · refine ⟨fun b c hq => hq, fun c o x hq => hq, fun t n x hq => ?_, fun m c hq => hq⟩
        simp only [Ghost.leave] at hq ⊢
        split at hq
        · rename_i ht; rw [if_pos ht]; exact hq
        · cases hq
      · intro t0 N hot x hx
        simp only [Ghost.leave, Nat.lt_irrefl, if_false, hot, and_self, if_true]
        exact hx
    · simp only [Prod.mk.injEq] at he
      obtain ⟨rfl, rfl⟩ := he
      have hleB : G.Le { G with bases := G0.bases } := ⟨fun _ _ h => h, fun _ _ _ h => h, fun _ _ _ h => h, fun _ _ h => h⟩
      refine ⟨{ G with bases := G0.bases }, ?_, ?_, ?_⟩
      · refine ⟨⟨s.dom.φ, s.dom.tk, s.dom.mp⟩, ?_, s.tok, ?_, s.fr, s.injφ, s.φfr, s.φtk, s.tkle, s.injtk, s.injmp, fun β hβ => ?_⟩
        · intro b c hq
          obtain ⟨cs, arr, e, h1, h2, h3⟩ := s.blk b c hq
          exact ⟨cs, arr, e, h1, h2, VRels.mono hleB _ _ h3⟩
        · intro m c hq
          obtain ⟨M, es, ck, h1, h2, h3⟩ := s.map m c hq
          exact ⟨M, es, ck, h1, h2, h3.mono hleB⟩
        · exact s.bases β (hbs β hβ).1
      · exact ⟨⟨st.le.φ, st.le.fr, st.le.tk, st.le.mp⟩, st.os, st.tape, st.output, st.size, fun c hc hn => st.keep c hc hn, fun c ho => st.own c ho, rfl, st.pend, st.frnew⟩
      · exact VRel.mono hleB _ _ hv

theorem SRel.push (s : SRel G h w) : SRel { G with bases := (h.blk.length, h.toks.length, h.maps.length) :: G.bases } h w := by
  have hle : G.Le { G with bases := (h.blk.length, h.toks.length, h.maps.length) :: G.bases } := ⟨fun _ _ h => h, fun _ _ _ h => h, fun _ _ _ h => h, fun _ _ h => h⟩
  refine ⟨⟨s.dom.φ, s.dom.tk, s.dom.mp⟩, ?_, s.tok, ?_, s.fr, s.injφ, s.φfr, s.φtk, s.tkle, s.injtk, s.injmp, fun β hβ => ?_⟩
  · intro b c hq
    obtain ⟨cs, arr, e, h1, h2, h3⟩ := s.blk b c hq
    exact ⟨cs, arr, e, h1, h2, VRels.mono hle _ _ h3⟩
  · intro m c hq
    obtain ⟨M, es, ck, h1, h2, h3⟩ := s.map m c hq
    exact ⟨M, es, ck, h1, h2, h3.mono hle⟩
  · rcases List.mem_cons.1 hβ with rfl | hβ
    · refine ⟨Nat.le_refl _, Nat.le_refl _, Nat.le_refl _, fun b c cs hq _ hcs => ?_⟩
      obtain ⟨cs', arr, e, h1, h2, h3⟩ := s.blk b c hq
      rw [hcs] at h1; cases h1
      exact VRels.bnd s.dom _ _ h3
    · exact s.bases β hβ

theorem acall_ok {S : Summ} (hS : SummOk P S) {D : Base → Draws} (hD : DrawsOk P D) {n : Nat} {f : FuncId} {args : List AV} {h : H} {v : AV} {h' : H} (he : acall P S D n f args h = some (v, h')) : CallOk P f args h v h' := by
  intro G w vs s hr
  unfold acall at he
  split at he
  · rename_i fn hfn
    split at he
    · rename_i c hc
      have hl := hr.length
      have key : ∀ (x : AX) (A : List AV) (h1 : H), exec P S D h.base n c (args ++ List.replicate (fn.ntmps - args.length) .undef) h = some (x, A, h1) → (x = .normal ∨ x = .ret) → ∀ vs', resvs P h1 A fn.results.toList = some vs' → leave h.base (oneOrTup vs') h1 = (v, h') →
          Calls P f vs.toArray w (fun e w' => ∃ G' u, e = .returned u ∧ Step G h w G' h' w' ∧ SRel G' h' w' ∧ VRel G' v u) := by
        intro x A h1 hex hx vs' hvs' hlv
        refine calls_of_wp hfn hc ?_
        refine exec_ok hS hD c _ _ _ _ _ hex _ w _ s.push ?_ ?_ _ (fun G1 a1 w1 st1 s1 r1 => ?_)
        · intro γ hγ
          rcases List.mem_cons.1 hγ with rfl | hγ
          · exact Nat.le_refl _
          · exact (s.bases γ hγ).1
        · refine ⟨?_, rfl⟩
          simp only [Array.toList_append, Array.toList_replicate, List.size_toArray]
          rw [← hl]
          have hle : G.Le { G with bases := (h.blk.length, h.toks.length, h.maps.length) :: G.bases } := ⟨fun _ _ h => h, fun _ _ _ h => h, fun _ _ _ h => h, fun _ _ h => h⟩
          exact (VRels.mono hle _ _ hr).append (VRels.replicate (undef_rel _) _)
        · obtain ⟨u, hu1, hu2⟩ := results_ok s1 r1 hvs'
          obtain ⟨G', g1, g2, g3⟩ := leave_ok s s1 st1 hu2 hlv
          have : bodyPost P fn (fun e w' => ∃ G' u, e = .returned u ∧ Step G h w G' h' w' ∧ SRel G' h' w' ∧ VRel G' v u) .ret a1 w1 := ⟨r1.defers, u, hu1, G', u, rfl, g2, g1, g3⟩
          rcases hx with rfl | rfl
          · exact this
          · exact this
      split at he
      · cases he
      · rename_i x A h1 hne hex
        split at he
        · rename_i vs' hvs'
          refine key x A h1 hex ?_ vs' hvs' (by simpa using he)
          cases x
          · exact .inl rfl
          · exact (hne _ rfl).elim
          · exact .inr rfl
        · cases he
      · cases he
    · cases he
  · cases he
end
end Go.VM
