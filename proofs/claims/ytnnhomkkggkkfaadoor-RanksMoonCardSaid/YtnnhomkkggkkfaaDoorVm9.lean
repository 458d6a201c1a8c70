/- Own texts on reading the model, joined: VmM8, VmZ4, VmPk, VmFr, VmFw, VmIs, VmPp, VmFn, VmFc, VmRn, VmRo, VmGl, VmRw. -/
import Derived.Test.YtnnhomkkggkkfaaDoorVm8
import Derived.ChangeArms
import Derived.Test.YtnnhomkkggkkfaaDoorVm7
import Derived.ProofKit
import Derived.LaidLaws
import Derived.Lay
import Derived.OpenShut
set_option linter.unusedSimpArgs false
set_option linter.unusedVariables false
set_option linter.unnecessarySimpa false
section
/- Regions that draw their order, whose effects are calls that leave all blocks as they are: loads may come at any time. -/
namespace Go.VM
set_option linter.unusedSectionVars false
variable [Inhabited Globs]
section
variable {P : Program} {G : Ghost} {w : World}
def isLoad : Op → Bool
  | .load .. => true
  | _ => false
structure SimpleL (M : FuncId → Bool) (ops : Array Oper) : Prop where
  edge : ∀ (j : Nat) (y : Oper), ops[j]? = some y → ∀ e ∈ y.after, Region.binds .any e = true → e.on < j
  kind : ∀ (j : Nat) (y : Oper), ops[j]? = some y → quietM M y.op = true ∨ callN M y.op = true
  slot : ∀ (i j : Nat) (x y : Oper), ops[i]? = some x → ops[j]? = some y → i < j → hazard ops x y = true → isAnc (Region.before ops) i j = true
  read : ∀ (i j : Nat) (x y : Oper), ops[i]? = some x → ops[j]? = some y → callN M y.op = true → readsQ M x.op = true → isLoad x.op = false → (isAnc (Region.before ops) i j = true ∧ i < j) ∨ (isAnc (Region.before ops) j i = true ∧ j < i)
  eff : ∀ (i j : Nat) (x y : Oper), ops[i]? = some x → ops[j]? = some y → i < j → callN M x.op = true → callN M y.op = true → isAnc (Region.before ops) i j = true
end
end Go.VM
end
section
/- Code whose drawn regions may have loads behind calls that leave the blocks. -/
namespace Go.VM
set_option linter.unusedSectionVars false
variable [Inhabited Globs]
section
variable {P : Program}
structure FokL (P : Program) (M : FuncId → Bool) (f : FuncId) (fn : Func) : Prop where
  mixed : P.follows .mixedOrders = true
  at_ : P.funcs[f]? = some fn
  body : fn.body = some (bd fn)
  call : callable P f = true
theorem sem_callL {E : Env} {M : FuncId → Bool} {f : FuncId} {fn : Func} {args : List AV} {h : H} {r : AV × H} {lv : Prop} (k : FokL E.P M f fn) (hβ : E.β = h.base)
    (hsem : SemC E.P lv E.β (bd fn) (args ++ List.replicate (fn.ntmps - args.length) .undef) h (fun x A' h' => ∃ os', Kfin E fn h r x A' h' os')) : CallOk E.P f args h r.1 r.2 := by
  intro G w vs s hgl hr
  have hl := hr.length
  refine callsIn_wide.1 (callsIn_of_wp_marks (F := fen none) (n := 0) k.at_ k.body trivial ?_ rfl)
  have hle : G.Le { G with bases := (h.blk.length, h.toks.length, h.maps.length) :: G.bases } := ⟨fun _ _ h => h, fun _ _ _ h => h, fun _ _ _ h => h, fun _ _ h => h⟩
  have en : Ent E.β { G with bases := (h.blk.length, h.toks.length, h.maps.length) :: G.bases } h w := ⟨s.push, .inr hβ.symm, hgl, by
    intro γ hγ
    rw [hβ]
    rcases List.mem_cons.1 hγ with rfl | hγ
    · exact Nat.le_refl _
    · exact (s.bases γ hγ).1⟩
  refine hsem none _ h w en [] _ w _ ⟨.refl _ _ _, s.push, fun p hp => (by cases hp), ⟨[], rfl, List.nodup_nil, fun D hD => (by cases hD), fun p hp => (by cases hp)⟩, fun l hl => (by cases hl), ?_⟩ _ (fun x A1 h1 G1 a1 w1 hk t1 _ => ?_)
  · refine ⟨?_, rfl, hgl⟩
    simp only [Array.toList_append, Array.toList_replicate, List.size_toArray]
    rw [← hl]
    exact (VRels.mono hle _ _ hr).append (VRels.replicate (undef_rel _) _)
  · obtain ⟨os1, hk⟩ := hk
    have st1 := t1.st
    have s1 := t1.s
    have r1 := t1.r
    have fin : ∀ vs', resvs E.P h1 A1 fn.results.toList = some vs' → leave h.base (oneOrTup vs') h1 = r → bodyPostM (fen none) 0 E.P fn (fun e w' => ∃ G' u, e = .returned u ∧ Step G h w G' r.2 w' ∧ SRel G' r.2 w' ∧ VRel G' r.1 u) .ret a1 w1 := by
      intro vs' hvs' hlv
      obtain ⟨Ds, eD, hn, hB, hk⟩ := t1.marks
      show LeavesInM (fen none) 0 E.P fn a1.tmps _ a1.defers .returning w1
      rw [eD]
      refine leaves_marks Ds w1 hn hB hk st1 s1 (fun w2 st2 s2 => ?_)
      obtain ⟨u, hu1, hu2⟩ := results_ok s2 r1 hvs'
      obtain ⟨G', g1, g2, g3⟩ := leave_ok s s2 st2 hu2 (v' := r.1) (h' := r.2) hlv
      exact ⟨u, hu1, G', u, rfl, g2, g1, g3⟩
    cases x
    · simp only [Kfin] at hk
      split at hk
      · rename_i vs' hv; exact fin vs' hv hk
      · exact hk.elim
    · exact hk.elim
    · simp only [Kfin] at hk
      split at hk
      · rename_i vs' hv; exact fin vs' hv hk
      · exact hk.elim
end
end Go.VM
end
section
/- A loop whose variable is captured: between its rounds all blocks from nb on are let go but one, which becomes the block nb. -/
namespace Go.VM
set_option linter.unusedSectionVars false
variable [Inhabited Globs]
section
variable {P : Program}
def H.pick (h : H) (nb p : Nat) : H := ⟨h.blk.take nb ++ (h.blk[p]?).toList, h.toks, h.maps⟩
def Ghost.pick (G : Ghost) (nb p : Nat) : Ghost := { G with φ := fun b => if b < nb then G.φ b else if b = nb then G.φ p else none }
theorem pick_below (G : Ghost) (nb p nt nm : Nat) : G.LeBelow nb nt nm (G.pick nb p) := ⟨fun b c hb h => by simp only [Ghost.pick, if_pos hb]; exact h, fun _ _ _ h => h, fun _ _ _ _ h => h, fun _ _ _ h => h⟩
theorem pick_φ {G : Ghost} {nb p b : Nat} {c : Nat × Nat} (h : (G.pick nb p).φ b = some c) : b ≤ nb ∧ G.φ (if b < nb then b else p) = some c := by
  simp only [Ghost.pick] at h
  split at h
  · rename_i hb; exact ⟨by omega, by rw [if_pos hb]; exact h⟩
  · rename_i hb
    split at h
    · exact ⟨by omega, by rw [if_neg hb]; exact h⟩
    · cases h
theorem pick_blk {h : H} {nb p b : Nat} {cp : List AV} (hp : h.blk[p]? = some cp) (hl : nb ≤ h.blk.length) (hb : b ≤ nb) : (h.pick nb p).blk[b]? = h.blk[if b < nb then b else p]? := by
  have hlen : (h.blk.take nb).length = nb := by rw [List.length_take]; omega
  simp only [H.pick, hp, Option.toList_some]
  by_cases c : b < nb
  · rw [if_pos c, List.getElem?_append_left (by omega), List.getElem?_take, if_pos c]
  · have : b = nb := by omega
    subst this
    rw [if_neg c, List.getElem?_append_right (by omega), hlen, hp]; simp
theorem pick_len {h : H} {nb p : Nat} {cp : List AV} (hp : h.blk[p]? = some cp) (hl : nb ≤ h.blk.length) : (h.pick nb p).blk.length = nb + 1 := by
  simp only [H.pick, hp, Option.toList_some, List.length_append, List.length_take, List.length_cons, List.length_nil]; omega
theorem SRel.pickH {G : Ghost} {h : H} {w : World} (s : SRel G h w) {nb p : Nat} (hpn : nb ≤ p) {cp : List AV} (hp : h.blk[p]? = some cp) (hcp : AV.bnds nb h.toks.length h.maps.length cp = true) (hc : h.clean nb) (hb : ∀ γ ∈ G.bases, γ.1 ≤ nb) : SRel (G.pick nb p) (h.pick nb p) w := by
  have hpl := (List.getElem?_eq_some_iff.1 hp).1
  have hl : nb ≤ h.blk.length := by omega
  have hlen := pick_len hp hl
  refine ⟨⟨fun b c hq => by rw [hlen]; have := (pick_φ hq).1; omega, s.dom.tk, s.dom.mp⟩, ?_, s.tok, ?_, s.fr, ?_, ?_, ?_, s.tkle, s.injtk, s.injmp, ?_⟩
  · intro b c hq
    obtain ⟨h1, h2⟩ := pick_φ hq
    obtain ⟨cs, arr, e, q1, q2, q2', q3⟩ := s.blk _ c h2
    refine ⟨cs, arr, e, by rw [pick_blk hp hl h1]; exact q1, q2, q2', VRels.below (pick_below G nb p h.toks.length h.maps.length) _ _ ?_ q3⟩
    by_cases c1 : b < nb
    · rw [if_pos c1] at q1
      exact hc cs (by
        have : (h.blk.take nb)[b]? = some cs := by rw [List.getElem?_take, if_pos c1]; exact q1
        exact List.mem_of_getElem? this)
    · rw [if_neg c1, hp] at q1
      cases q1; exact hcp
  · intro m c hm
    obtain ⟨M, es, ck, q1, q2, hMok, M', q3, q4, q5, q6⟩ := s.map m c hm
    refine ⟨M, es, ck, q1, q2, hMok, M', q3, q4, fun i kv e g1 g2 => ?_, q6⟩
    have hin := hMok.2 kv (q3.mem_iff.1 (List.mem_of_getElem? g1))
    obtain ⟨r1, r2⟩ := q5 i kv e g1 g2
    exact ⟨VRel.below (pick_below G 0 p 0 0 |> fun h => ⟨fun b c hb => absurd hb (Nat.not_lt_zero _), h.fr, fun t n x ht => absurd ht (Nat.not_lt_zero _), fun m c hm => absurd hm (Nat.not_lt_zero _)⟩) _ _ (key_bnd hin.1) r1,
      VRel.below (pick_below G 0 p 0 0 |> fun h => ⟨fun b c hb => absurd hb (Nat.not_lt_zero _), h.fr, fun t n x ht => absurd ht (Nat.not_lt_zero _), fun m c hm => absurd hm (Nat.not_lt_zero _)⟩) _ _ hin.2 r2⟩
  · intro b b' c c' h1 h2 he
    obtain ⟨g1, g2⟩ := pick_φ h1
    obtain ⟨g3, g4⟩ := pick_φ h2
    rw [pick_blk hp hl g1, pick_blk hp hl g3]
    refine (s.injφ _ _ c c' g2 g4 he).imp (fun e => ?_) id
    split at e <;> split at e <;> omega
  · intro b c o hq hb'
    obtain ⟨g1, g2⟩ := pick_φ hq
    rw [pick_blk hp hl g1] at hb'
    exact s.φfr _ c o g2 hb'
  · intro b c t n cap sz hq
    exact s.φtk _ c t n cap sz (pick_φ hq).2
  · intro β hβ
    obtain ⟨h1, h2, h3, h4⟩ := s.bases β hβ
    have hbb := hb β hβ
    refine ⟨by rw [hlen]; omega, h2, h3, fun b c cs hq hlt hcs => ?_⟩
    obtain ⟨q1, q2⟩ := pick_φ hq
    rw [pick_blk hp hl q1, if_pos (show b < nb by omega)] at hcs
    rw [if_pos (show b < nb by omega)] at q2
    exact h4 b c cs q2 hlt hcs
theorem own_pick {G : Ghost} {h : H} {nb p c : Nat} {cp : List AV} (hp : h.blk[p]? = some cp) (hl : nb ≤ h.blk.length) (ho : Own (G.pick nb p) (h.pick nb p) c) : Own G h c := by
  rcases ho with ⟨b, sb, hb, hq⟩ | ho
  · obtain ⟨g1, g2⟩ := pick_φ hb
    rw [pick_blk hp hl g1] at hq
    exact .inl ⟨_, sb, g2, hq⟩
  · exact .inr ho
theorem Step.pickH {G0 G : Ghost} {h0 h : H} {w0 w : World} (s0 : SRel G0 h0 w0) (st : Step G0 h0 w0 G h w) {nb p : Nat} {cp : List AV} (hp : h.blk[p]? = some cp) (hl : nb ≤ h.blk.length) (hn : h0.blk.length ≤ nb) : Step G0 h0 w0 (G.pick nb p) (h.pick nb p) w where
  le := ⟨fun b c hq => by
    have := s0.dom.φ b c hq
    simp only [Ghost.pick, if_pos (show b < nb by omega)]
    exact st.le.φ b c hq, st.le.fr, st.le.tk, st.le.mp⟩
  os := st.os
  tape := st.tape
  output := st.output
  size := st.size
  keep := st.keep
  own c ho := st.own c (own_pick hp hl ho)
  bases := st.bases
  pend := ⟨fun b c hq hlt => by
    obtain ⟨g1, g2⟩ := pick_φ hq
    rw [if_pos (show b < nb by omega)] at g2
    exact st.pend.1 b c g2 hlt, by rw [pick_len hp hl]; omega⟩
  frnew := st.frnew
def ren (nb nt nm p : Nat) (a : AV) : AV := if a.bnd nb nt nm then a else match a with
  | .ptr b o => if b = p then .ptr nb o else .top
  | _ => .top
theorem ren_rel {G : Ghost} {nb p : Nat} (nt nm : Nat) {x : AV} {v : Value} (h1 : VRel G x v) : VRel (G.pick nb p) (ren nb nt nm p x) v := by
  unfold ren
  split
  · rename_i hb; exact VRel.below (pick_below G nb p nt nm) _ _ hb h1
  · split
    · split
      · rename_i e
        subst e
        simp only [VRel] at h1 ⊢
        obtain ⟨c, g1, g2⟩ := h1
        exact ⟨c, by simp only [Ghost.pick, if_neg (Nat.lt_irrefl nb), if_true]; exact g1, g2⟩
      · simp only [VRel]
    · simp only [VRel]
theorem ren_rels {G : Ghost} {nb p : Nat} (nt nm : Nat) : ∀ {A : List AV} {us : List Value}, VRels G A us → VRels (G.pick nb p) (A.map (ren nb nt nm p)) us
  | [], us, h => by simpa only [List.map_nil, VRels] using h
  | x :: A, us, h => by
    simp only [VRels] at h
    obtain ⟨v, vs, e, h1, h2⟩ := h
    simp only [List.map_cons, VRels]
    exact ⟨v, vs, e, ren_rel nt nm h1, ren_rels nt nm h2⟩
theorem Stt.pick {ro : Option Nat} {obs : List (Nat × Obj)} {Ge : Ghost} {he : H} {we : World} {G : Ghost} {A : List AV} {h : H} {w : World} {a : Act} (t : Stt ro obs Ge he we G A h w a) {nb p : Nat} (hpn : nb ≤ p) {cp : List AV} (hp : h.blk[p]? = some cp) (hcp : AV.bnds nb h.toks.length h.maps.length cp = true) (hc : h.clean nb) (hb : ∀ γ ∈ G.bases, γ.1 ≤ nb)
    (s0 : SRel Ge he we) (hn : he.blk.length ≤ nb) : Stt ro obs Ge he we (G.pick nb p) (A.map (ren nb h.toks.length h.maps.length p)) (h.pick nb p) w a := by
  have hl : nb ≤ h.blk.length := by have := (List.getElem?_eq_some_iff.1 hp).1; omega
  refine ⟨t.st.pickH s0 hp hl hn, t.s.pickH hpn hp hcp hc hb, fun q hq => ⟨(t.keep q hq).1, fun ho => (t.keep q hq).2 (own_pick hp hl ho)⟩, ?_, t.ro, ⟨ren_rels _ _ t.r.tmps, t.r.defers, t.r.gl⟩⟩
  obtain ⟨Ds, e, hn', hB, hk⟩ := t.marks
  exact ⟨Ds, e, hn', hB, fun q hq => ⟨(hk q hq).1, fun ho => (hk q hq).2 (own_pick hp hl ho)⟩⟩
theorem sel_ren {nb nt nm p : Nat} {A : List AV} {is : List Nat} : sel is (A.map (ren nb nt nm p)) = (sel is A).map (ren nb nt nm p) := by
  simp only [sel, List.map_map]
  apply List.map_congr_left
  intro i _
  simp only [List.getD_eq_getElem?_getD, List.getElem?_map, Function.comp_apply]
  cases A[i]? with
  | none => rfl
  | some x => rfl
structure Picks (nb p : Nat) (h : H) : Prop where
  le : nb ≤ p
  blk : ∃ cp, h.blk[p]? = some cp ∧ AV.bnds nb h.toks.length h.maps.length cp = true
def KroundP (nb p : Nat) (I : Nat → List AV → H → Prop) (N m j : Nat) (is : List Nat) (outs : List Out) : Kn := fun x A h _ =>
  match x with
  | .normal => A.length = N ∧ j < m ∧ Keep (Picks nb p h ∧ h.clean nb ∧ I (j + 1) ((sel is A).map (ren nb h.toks.length h.maps.length p)) (h.pick nb p))
  | x => A.length = N ∧ hits outs x A h
theorem loop_p {S : Summ} {p : Pures} {β : Base} {n : Nat} {c : Code} {N : Nat} {is : List Nat} {vs : List AV} {h : H} {outs : List Out} {M : FuncId → Bool}
    (hR : Rests ⟨P, S, p, β, n⟩ M) (hc : allSimpleM M c = true) (nb pk : Nat) (hcut : β.nb ≤ nb) (hn3 : n ≠ 300)
    (I : Nat → List AV → H → Prop) (m : Nat) (h0 : I 0 vs h) (hen : ∀ (Ge : Ghost) (he : H) (we : World), Ent β Ge he we → he.blk.length ≤ nb)
    (hstep : ∀ j vs h, j ≤ m → I j vs h → ∃ os, ∀ u, Led (wS ⟨P, S, p, β, n⟩ c (fr N u (is.zip vs)) h os (KroundP nb pk I N m j is outs))) :
    LoopS ⟨P, S, p, β, n⟩ c N is vs h outs := by
  intro A0 hA0 hs0 ro Ge he we en obs
  have go : ∀ (d j : Nat) (A : List AV) (h : H), m - j = d → j ≤ m → A.length = N → I j (sel is A) h → ∀ (G : Ghost) (w : World) (a : Act), Stt ro obs Ge he we G A h w a →
      ∀ (Q : Exit → Act → World → Prop), (∀ x A' h' G' a' w', (A'.length = N ∧ hits outs x A' h') → Stt ro obs Ge he we G' A' h' w' a' → Q x.toExit a' w') → Code.roundsIn (fen ro) 0 P c Q (d + 1) a w := by
    intro d
    induction d with
    | zero =>
      intro j A h hd hj hA hI G w a t Q hQ
      obtain ⟨os, hw⟩ := hstep j _ _ hj hI
      have := (hw (fun i => A.getD i .undef)).it
      rw [← hA, fr_sel] at this
      rw [roundsIn_succ]
      refine wS_ok hR c hc _ _ _ _ this ro Ge he we en obs G w a t _ (fun x1 A1 h1 G1 a1 w1 hk t1 _ => ?_)
      obtain ⟨os1, hk⟩ := hk
      cases x1
      · simp only [KroundP] at hk; omega
      · simp only [KroundP] at hk
        exact hQ _ A1 h1 G1 a1 w1 ⟨by rw [hk.1, hA], hk.2⟩ t1
      · simp only [KroundP] at hk
        exact hQ _ A1 h1 G1 a1 w1 ⟨by rw [hk.1, hA], hk.2⟩ t1
    | succ d ih =>
      intro j A h hd hj hA hI G w a t Q hQ
      obtain ⟨os, hw⟩ := hstep j _ _ hj hI
      have := (hw (fun i => A.getD i .undef)).it
      rw [← hA, fr_sel] at this
      rw [roundsIn_succ]
      refine wS_ok hR c hc _ _ _ _ this ro Ge he we en obs G w a t _ (fun x1 A1 h1 G1 a1 w1 hk t1 _ => ?_)
      obtain ⟨os1, hk⟩ := hk
      cases x1
      · simp only [KroundP] at hk
        obtain ⟨k1, k2, k3, k4, k5⟩ := hk
        obtain ⟨hle, cp, hp, hcp⟩ := k3
        have hb1 : ∀ γ ∈ G1.bases, γ.1 ≤ nb := fun γ hγ => by
          rw [t1.st.bases] at hγ
          exact Nat.le_trans (en.bases γ hγ) hcut
        have t2 := t1.pick hle hp hcp k4 hb1 en.srel (hen _ _ _ en)
        exact ih (j + 1) _ _ (by omega) (by omega) (by simp [k1, hA]) (by rw [sel_ren]; exact k5) (G1.pick nb pk) w1 a1 t2 Q hQ
      · simp only [KroundP] at hk
        exact hQ _ A1 h1 G1 a1 w1 ⟨by rw [hk.1, hA], hk.2⟩ t1
      · simp only [KroundP] at hk
        exact hQ _ A1 h1 G1 a1 w1 ⟨by rw [hk.1, hA], hk.2⟩ t1
  intro G w a t Q hQ
  have hQ' : ∀ (x : AX) (A' : List AV) (h' : H) (G' : Ghost) (a' : Act) (w' : World), (A'.length = N ∧ hits outs x A' h') → Stt ro obs Ge he we G' A' h' w' a' → Q x.toExit a' w' := fun x A' h' G' a' w' k t' => hQ x A' h' G' a' w' k t' fun q => absurd q hn3
  exact wpIn_loop_rounds (m + 1) (go m 0 A0 h (by omega) (Nat.zero_le _) hA0 (by rw [hs0]; exact h0) G w a t Q hQ')
theorem en_nil {nb : Nat} (Ge : Ghost) (he : H) (we : World) (en : Ent H.nil.base Ge he we) : he.blk.length ≤ nb := by
  rcases en.base with h | h
  · exact absurd h (by decide)
  · have : he.base.nb = 0 := by rw [h]; rfl
    have e : he.base.nb = he.blk.length := rfl
    omega
theorem RangeS.less {S : Summ} {p : Pures} {β : Base} {n : Nat} {c : Code} {N : Nat} {is : List Nat} {vs : List AV} {h : H} {outs : List Out} (hr : RangeS ⟨P, S, p, β, 300⟩ c N is vs h outs) (hn : n ≠ 300) : RangeS ⟨P, S, p, β, n⟩ c N is vs h outs :=
  fun A hA hs ro Ge he we en obs G w a t Q hQ => hr A hA hs ro Ge he we en obs G w a t Q (fun x A' h' G' a' w' k t' _ => hQ x A' h' G' a' w' k t' fun q => absurd q hn)
theorem CallOk.pick {f : FuncId} {args : List AV} {h h' : H} {p o n c z : Nat} {cp : List AV} (hc : CallOk P f args h (.msl p o n c z) h') (hp : h'.blk[p]? = some cp) (hnp : h.blk.length ≤ p)
    (hcp : AV.bnds h.blk.length h'.toks.length h'.maps.length cp = true) (hcl : h'.clean h.blk.length) : CallOk P f args h (.msl h.blk.length o n c z) (h'.pick h.blk.length p) := by
  intro G w vs s hgl hr
  refine (hc G w vs s hgl hr).mono ?_
  rintro e w' ⟨G1, u, rfl, st, s1, hv⟩
  have hl : h.blk.length ≤ h'.blk.length := st.pend.2
  refine ⟨G1.pick h.blk.length p, u, rfl, st.pickH s hp hl (Nat.le_refl _), s1.pickH hnp hp hcp hcl (fun γ hγ => ?_), ?_⟩
  · rw [st.bases] at hγ
    exact (s.bases γ hγ).1
  · simp only [VRel] at hv ⊢
    obtain ⟨x, q1, q2⟩ := hv
    exact ⟨x, by simp only [Ghost.pick, if_neg (Nat.lt_irrefl _), if_true]; exact q1, q2⟩
end
end Go.VM
end
section
/- Slices of structs of two numbers: read as slices of pairs; and such slices that are written. -/
namespace Go.VM
set_option linter.unusedSectionVars false
variable [Inhabited Globs]
open Go.ChangeShapes Go.WideShapes Go.RowKit
section
variable {H : Type} {enc : TypeId × Value → H} {P : Program} {w : World} {held : Bool}
end
end Go.VM
end
section
/- Slices of pairs that are made and written. -/
namespace Go.VM
set_option linter.unusedSectionVars false
variable [Inhabited Globs]
section
variable {P : Program} {t : TypeId}
end
end Go.VM
end
section
/- Slices of integers that append makes, in a heap that has blocks; two pure contracts as one. -/
namespace Go.VM
set_option linter.unusedSectionVars false
variable [Inhabited Globs]
def intR : Rec Int where
  e x := [I x]
  v x := [.int .i64 x]
  z := 1
  d := 0
  pos := by decide
  len _ := rfl
  vlen _ := rfl
  one _ := rfl
  bnds _ _ _ _ := rfl
  plain _ := rfl
  wk _ := rfl
  frz _ _ _ _ _ := rfl
  rel G x := by simp [VRels, VRel]
theorem intR_ints : ∀ l : List Int, intR.cells l = ints l
  | [] => rfl
  | x :: l => by rw [intR.cells_cons, intR_ints l]; rfl
theorem rm_rmz (l : List Int) : rmz 1 l = rm 0 l := by cases l <;> rfl
theorem tk_tkz (l : List Int) : tkz l = tk l := by cases l <;> rfl
theorem app_intsb {P : Program} {t : TypeId} (hT : Rec.appT P t 1 = true) {l : List Int} {x : Int} {bs : List (List AV)} (hn : l.length ≤ 1000000) :
    aAppend P t t (.sl (ints l) l.length (rm 0 l)) (.sl [I x] 1 .full) ⟨bs, tk l, []⟩ = some (.sl (ints (l ++ [x])) (l ++ [x]).length (rm 0 (l ++ [x])), ⟨bs, tk (l ++ [x]), []⟩) := by
  have := intR.app (P := P) (t := t) hT (l := l) (x := x) (bs := bs) hn
  simp only [intR_ints, tk_tkz] at this
  rw [← rm_rmz, ← rm_rmz]
  exact this
theorem frz_ints (a b : Nat) (h : H) (k : Nat) : ∀ l : List Int, (ints l).map (frz a b h (k + 2)) = ints l
  | [] => rfl
  | x :: l => by
    show frz a b h (k + 2) (I x) :: (ints l).map (frz a b h (k + 2)) = I x :: ints l
    rw [frz_ints a b h k l]; rfl
end Go.VM
end
section
/- Slices of pairs that append made. -/
namespace Go.VM
set_option linter.unusedSectionVars false
variable [Inhabited Globs]
end Go.VM
end
section
/- A contract of what changes the first blocks of the heap, and makes none, holds where more blocks, tokens and maps stand behind them. -/
namespace Go.VM
set_option linter.unusedSectionVars false
variable [Inhabited Globs]
section
variable {P : Program}
end
end Go.VM
end
section
/- Drawn regions with a chain of effects beside which stand calls that say the same at each heap. -/
namespace Go.VM
set_option linter.unusedSectionVars false
variable [Inhabited Globs]
def FreeS (S : Summ) (N : FuncId → Bool) : Prop := ∀ g, N g = true → ∀ args h v h', S g args h = some (v, h') → ∀ h1, S g args h1 = some (v, h1)
def freeOp (N : FuncId → Bool) : Op → Bool
  | .call { callee := .value (.func g), .. } => N g
  | _ => false
def simpleRegionN (N M : FuncId → Bool) (ops : Array Oper) : Bool :=
  (simpleRegionW M ops && ops.all fun o => !valCall o.op) && ops.toList.zipIdx.all fun (o, i) => !readsW M o.op || freeOp N o.op || (List.range (ops.size + 1)).all fun n => !crossW M ops i n
def allSimpleN (N M : FuncId → Bool) : Code → Bool
  | .region _ ops true => simpleRegionM M ops || simpleRegionN N M ops
  | .seq a b => allSimpleN N M a && allSimpleN N M b
  | .cond _ a b => allSimpleN N M a && allSimpleN N M b
  | .block _ c => allSimpleN N M c
  | .loop c => allSimpleN N M c
  | .scope c => allSimpleN N M c
  | _ => true
section
variable {P : Program} {G : Ghost} {h : H} {w : World}
set_option maxHeartbeats 2000000 in
theorem drawT_any {M : FuncId → Bool} {S : Summ} {p : Pures} (hm : P.follows .mixedOrders = true) {β : Base} (hS : SummB P β.nb S) (hp : PureBut S M p) {ops : Array Oper} (hsim : simpleRegionW M ops = true) {A : List AV} {h : H} {A' : List AV} {h' : H} (hr : arun P (S) β ops ops.toList A h = some (A', h'))
    (hV : ∀ (i : Nat) (o : Oper) (x : Operand) (args : Array Operand) (ts : Array TypeId), ops[i]? = some o → o.op = .call { callee := .value x, args := args, argTypes := ts } → valCall o.op = true → awant ops A' o = some true → ∃ g, aev A' x = .fn (.func g) [] [] ∧ M g = false)
    (hcom : ∀ (As : Nat → List AV) (hs : Nat → H) (vs : Nat → AV), Trace P S β ops A h A' h' As hs vs → ∀ (i : Nat) (o : Oper) (n : Nat), ops[i]? = some o → readsW M o.op = true → n ≤ ops.size → crossW M ops i n = true → awant ops (As i) o = some true → ∀ A1 h1, arun P S β ops (ops.toList.take n) A h = some (A1, h1) → aop P S β o (As i) h1 = some (vs i, h1))
    {a : Act} (s : SRel G h w) (hβ : ∀ γ ∈ G.bases, γ.1 ≤ β.nb) (r : ARel G A a) {Q : Exit → Act → World → Prop} (hQ : ∀ G' a' w', Step G h w G' h' w' → SRel G' h' w' → ARel G' A' a' → Q .normal a' w') : wpAny P .any ops Q ops.size (Array.replicate ops.size false) a { w with drawn := w.drawn + 1 } := by
  have sim := simpleW_of hsim
  obtain ⟨As, hs, vs, t1, t2, t3, t4, t5⟩ := arun_trace _ _ _ _ _ hr
  have tr : Trace P (S) β ops A h A' h' As hs vs := ⟨t1, t2, by simpa using t3, by simpa using t4, fun i o ho => t5 i o (by simpa using ho)⟩
  obtain ⟨f, f1, f2, f3⟩ := first_effM (effW M) ops ops.size (Nat.le_refl _)
  have size_of : ∀ {i : Nat} {o : Oper}, ops[i]? = some o → i < ops.size := fun ho => (Array.getElem?_eq_some_iff.1 ho).1
  -- what is read stays to the end
  have hfin : ∀ (i : Nat) (o : Oper), ops[i]? = some o → readsW M o.op = true → ∀ t, t ∈ o.looksAt ops → (As i)[t]? = A'[t]? := fun i o ho hk t ht => by
    have key : ∀ k, i ≤ k → k ≤ ops.size → (As k)[t]? = (As i)[t]? := by
      intro k
      induction k with
      | zero => intro h1 _; have : i = 0 := by omega
                subst this; rfl
      | succ k ih =>
        intro h1 h2
        by_cases e : i = k + 1
        · rw [e]
        · have hok : ops[k]? = some ops[k] := by simp [show k < ops.size by omega]
          rw [(tr.step k _ hok).1, putA_get, if_neg, ih (by omega) (by omega)]
          rintro ⟨hd, _⟩
          exact sim.ssa i k o _ ho hok (by omega) hk t hd ht
    rw [← tr.an, key ops.size (by have := size_of ho; omega) (Nat.le_refl _)]
  have hfev : ∀ (i : Nat) (o : Oper), ops[i]? = some o → readsW M o.op = true → ∀ x ∈ o.op.operands, aev A' x = aev (As i) x := fun i o ho hk x hx => aev_of_slots (fun t ht => by
    subst ht
    refine (hfin i o ho hk t ?_).symm
    simp only [Oper.looksAt, List.mem_append, List.mem_filterMap]
    exact .inl ⟨.tmp t, by simpa using hx, rfl⟩)
  have hfwant : ∀ (i : Nat) (o : Oper), ops[i]? = some o → readsW M o.op = true → awant ops A' o = awant ops (As i) o := fun i o ho hk => by
    unfold awant
    split
    · rfl
    · rename_i g want hg
      cases hd : (ops[g]?).bind (·.dst) with
      | none => rfl
      | some d =>
        simp only
        rw [hfin i o ho hk d (by simp [Oper.looksAt, hg, hd])]
  have hVc : ∀ (i : Nat) (o : Oper), ops[i]? = some o → quietV M o.op = true → awant ops (As i) o = some true → ∀ x args ts, o.op = .call { callee := .value x, args := args, argTypes := ts } → valCall o.op = true → ∃ g, aev (As i) x = .fn (.func g) [] [] ∧ M g = false := fun i o ho hq hw x args ts hop hv => by
    have hk : readsW M o.op = true := by rw [readsW, quietW_not_eff hq, hop]; rfl
    obtain ⟨g, h1, h2⟩ := hV i o x args ts ho hop hv (by rw [hfwant i o ho hk]; exact hw)
    refine ⟨g, ?_, h2⟩
    rw [← hfev i o ho hk x (by rw [hop]; simp [Op.operands, Call.operands])]
    exact h1
  -- what each kind does in the text's order
  have hquiet : ∀ j o, ops[j]? = some o → quietV M o.op = true → hs (j + 1) = hs j := fun j o ho hk => by
    rcases (tr.step j o ho).2 with ⟨hw0, h2⟩ | ⟨_, _, h2⟩
    · obtain ⟨g, hg, _⟩ := quiet_formV (P := P) hp (β := β) (A := As j) hk (hVc j o ho hk hw0)
      rw [hg, Option.map_eq_some_iff] at h2
      obtain ⟨_, _, h2⟩ := h2
      simp only [Prod.mk.injEq] at h2; exact h2.2.symm
    · exact h2
  have halloc : ∀ j o, ops[j]? = some o → allocK9 o.op = true → awant ops (As j) o = some true → ∃ (cs : List AV) (mk : Nat → AV) (arr : Array Value) (e : TypeId) (u : Nat → Value), vs j = mk (hs j).blk.length ∧ hs (j + 1) = { hs j with blk := (hs j).blk ++ [cs] } ∧ (∀ G, VRels G cs arr.toList) ∧ (∀ (G : Ghost) b c, G.φ b = some (c, arr.size) → VRel G (mk b) (u c)) ∧
      ∀ (A1 : List AV) (G1 : Ghost) (a1 : Act) (w1 : World), (∀ x ∈ o.op.operands, aev A1 x = aev (As j) x) → ARel G1 A1 a1 → (execOp a1.eval o).run P w1 = .ok (.value (u w1.heap.size)) (w1.alloc (.cells arr e)) := fun j o ho hk hw => by
    rcases (tr.step j o ho).2 with ⟨_, h2⟩ | ⟨h2, _⟩
    · exact alloc_desc w G hk h2
    · rw [hw] at h2; cases h2
  have before_f : ∀ i o, ops[i]? = some o → allocK9 o.op = true → i < f := fun i o ho hk => by
    by_cases hf : f < ops.size
    · obtain ⟨o', ho', he⟩ := f3 hf
      exact (sim.alloc i f o o' ho ho' he hk).2
    · have := size_of ho; omega
  have hstay : ∀ j o, f ≤ j → ops[j]? = some o → effW M o.op = false → hs (j + 1) = hs j := fun j o hj ho he => by
    rcases sim.kind j o ho with hk | hk | hk
    · exact hquiet j o ho hk
    · have := before_f j o ho hk; omega
    · rw [he] at hk; cases hk
  have hstep : ∀ j, j < f → ∃ zs, hs (j + 1) = { hs j with blk := (hs j).blk ++ zs } := fun j hj => by
    have ho : ops[j]? = some ops[j] := by simp [show j < ops.size by omega]
    rcases sim.kind j _ ho with hk | hk | hk
    · exact ⟨[], by rw [hquiet j _ ho hk]; simp⟩
    · rcases (tr.step j _ ho).2 with ⟨h1, _⟩ | ⟨_, _, h1⟩
      · obtain ⟨z, _, _, _, _, _, hz, _⟩ := halloc j _ ho hk h1
        exact ⟨[z], hz⟩
      · exact ⟨[], by rw [h1]; simp⟩
    · rw [f2 j _ hj ho] at hk; cases hk
  have hprefix : ∀ d k, k + d = f → ∃ zs, hs f = { hs k with blk := (hs k).blk ++ zs } := by
    intro d
    induction d with
    | zero => intro k hk; have : k = f := by omega
              subst this; exact ⟨[], by simp⟩
    | succ d ih =>
      intro k hk
      obtain ⟨zs, hz⟩ := ih (k + 1) (by omega)
      obtain ⟨ys, hy⟩ := hstep k (by omega)
      exact ⟨ys ++ zs, by rw [hz, hy]; simp⟩
  have hpre : ∀ k, k ≤ f → ∃ zs, hs f = { hs k with blk := (hs k).blk ++ zs } := fun k hk => hprefix (f - k) k (by omega)
  obtain ⟨zs0, hzs0⟩ := hpre 0 (Nat.zero_le _)
  rw [tr.h0] at hzs0
  have hlenf : ∀ k, k ≤ f → (hs k).blk.length ≤ (hs f).blk.length := fun k hk => by
    obtain ⟨zs, hz⟩ := hpre k hk
    rw [hz]; simp
  have hlen0 : ∀ d k, k + d ≤ f → (hs k).blk.length ≤ (hs (k + d)).blk.length := by
    intro d
    induction d with
    | zero => intro k _; exact Nat.le_refl _
    | succ d ih =>
      intro k hk
      obtain ⟨ys, hy⟩ := hstep (k + d) (by omega)
      have := ih k (by omega)
      rw [show k + (d + 1) = k + d + 1 by omega, hy]; simp; omega
  have hlens : ∀ j k, j ≤ k → k ≤ f → (hs j).blk.length ≤ (hs k).blk.length := fun j k hj hk => by
    have := hlen0 (k - j) j (by omega)
    rwa [show j + (k - j) = k by omega] at this
  -- the invariant
  let D : Array Bool → Nat → Bool := fun listed i => listed.getD i false
  have main : ∀ (fuel : Nat) (listed : Array Bool) (G1 : Ghost) (w1 : World) (a1 : Act), listed.size = ops.size → Closed ops (D listed) → SRel G1 (HDM (effW M) (hs f) ops hs (D listed) ops.size) w1 → Step G h w G1 (HDM (effW M) (hs f) ops hs (D listed) ops.size) w1 →
      ARel G1 (AD A ops vs (D listed) ops.size) a1 →
      (∀ j o, ops[j]? = some o → allocK9 o.op = true → D listed j = false → awant ops (As j) o = some true → G1.φ (hs j).blk.length = none) → unlisted ops.size listed ≤ fuel → wpAny P .any ops Q fuel listed a1 w1 := by
    -- when all is done
    have done : ∀ (listed : Array Bool) (G1 : Ghost) (w1 : World) (a1 : Act), (∀ i, i < ops.size → D listed i = true) → SRel G1 (HDM (effW M) (hs f) ops hs (D listed) ops.size) w1 → Step G h w G1 (HDM (effW M) (hs f) ops hs (D listed) ops.size) w1 →
        ARel G1 (AD A ops vs (D listed) ops.size) a1 → Q .normal a1 w1 := fun listed G1 w1 a1 hall s1 st1 r1 => by
      have e1 : HDM (effW M) (hs f) ops hs (D listed) ops.size = h' := by
        rw [HDM_same (E := fun j => decide (j < ops.size)) ops.size (fun j o hj _ _ => by simp [hall j hj, hj]), HDM_text rfl f2 hstay (fun _ _ => trivial) ops.size f1 (Nat.le_refl _) (Nat.le_refl _), tr.hn]
      have e2 : AD A ops vs (D listed) ops.size = A' := by
        rw [← tr.an, show As ops.size = As (min ops.size ops.size) by simp, ← AD_text tr (Nat.le_refl _) ops.size (Nat.le_refl _)]
        apply List.ext_getElem?
        intro t
        exact AD_same ops.size (fun j hj _ => by simp [hall j hj, hj])
      rw [e1] at s1 st1
      rw [e2] at r1
      exact hQ G1 a1 w1 st1 s1 r1
    have ready_all : ∀ (listed : Array Bool), listed.size = ops.size → Region.ready .any ops listed = [] → ∀ i, i < ops.size → D listed i = true := fun listed hsz hnil i => by
      induction i using Nat.strongRecOn with
      | _ i ih =>
        intro hi
        cases hd : D listed i
        · have : i ∈ Region.ready .any ops listed := by
            rw [mem_ready]
            refine ⟨?_, ops[i], by simp [hi], fun e he hb => ?_⟩
            · have hi' : i < listed.size := by omega
              simp only [D, Array.getD_eq_getD_getElem?, Array.getElem?_eq_getElem hi', Option.getD_some] at hd ⊢
              exact hd
            · have := sim.edge i ops[i] (by simp [hi]) e he hb
              exact ih e.on this (by omega)
          rw [hnil] at this; cases this
        · rfl
    intro fuel
    induction fuel with
    | zero =>
      intro listed G1 w1 a1 hsz hcl s1 st1 r1 hpn hfu
      have hall : ∀ i, i < ops.size → D listed i = true := fun i hi => by
        have h0 : ((List.range ops.size).filter fun i => !listed.getD i false) = [] := List.eq_nil_of_length_eq_zero (by unfold unlisted at hfu; omega)
        have := List.filter_eq_nil_iff.1 h0 i (by simpa using hi)
        simpa [D] using this
      refine ⟨?_, done listed G1 w1 a1 hall s1 st1 r1⟩
      apply List.eq_nil_iff_forall_not_mem.2
      intro j hj
      rw [mem_ready] at hj
      obtain ⟨h0, o, ho, _⟩ := hj
      have hlt : j < listed.size := by have := size_of ho; omega
      have := hall j (size_of ho)
      simp only [D, Array.getD_eq_getD_getElem?, Array.getElem?_eq_getElem hlt, Option.getD_some] at h0 this
      rw [h0] at this; cases this
    | succ fuel ih =>
      intro listed G1 w1 a1 hsz hcl s1 st1 r1 hpn hfu
      refine ⟨fun hnil => done listed G1 w1 a1 (ready_all listed hsz hnil) s1 st1 r1, fun i hi => ?_⟩
      rw [mem_ready] at hi
      obtain ⟨h0, o, ho, hpre1⟩ := hi
      have hin := size_of ho
      have hlt : i < listed.size := by omega
      have hDi : D listed i = false := by
        simp only [Array.getD_eq_getD_getElem?, Array.getElem?_eq_getElem hlt, Option.getD_some] at h0
        simp only [D, Array.getD_eq_getD_getElem?, Array.getElem?_eq_getElem hlt, Option.getD_some]; exact h0
      have ancD : ∀ k, isAnc (Region.before ops) k i = true → D listed k = true := fun k hk => anc_closed hcl i i (Nat.le_refl _) k o ho hpre1 hk
      have notD : ∀ k ok, ops[k]? = some ok → isAnc (Region.before ops) i k = true → D listed k = false := fun k ok hok hk => by
        cases hd : D listed k
        · rfl
        · have := anc_in hcl hok hd hk
          rw [hDi] at this; cases this
      -- slots
      have hslot : ∀ t, t ∈ names ops o → ∀ j, j < ops.size → (ops[j]?).bind (·.dst) = some t → j ≠ i → D listed j = decide (j < i) := fun t ht j hj hdst hji => by
        have hoj : ops[j]? = some ops[j] := by simp [hj]
        rw [hoj] at hdst
        simp only [Option.bind_some] at hdst
        rcases Nat.lt_or_gt_of_ne hji with hlt' | hgt'
        · rw [ancD j (sim.slot j i _ o hoj ho hlt' (by simp [hazard, hdst, ht]))]; simp [hlt']
        · rw [notD j _ hoj (sim.slot i j o _ ho hoj hgt' (by simp [hazard, hdst, ht]))]; simp; omega
      have hread : ∀ t, t ∈ o.looksAt ops → (AD A ops vs (D listed) ops.size)[t]? = (As i)[t]? := fun t ht => by
        rw [AD_same (E := fun j => decide (j < i)) ops.size, AD_text tr (by omega) ops.size (Nat.le_refl _), show min ops.size i = i by omega]
        intro j hj hdst
        by_cases hji : j = i
        · subst hji; rw [hDi]; simp
        · exact hslot t (by simp [names, ht]) j hj hdst hji
      have hev : ∀ x ∈ o.op.operands, aev (AD A ops vs (D listed) ops.size) x = aev (As i) x := fun x hx => aev_of_slots (fun t ht => by
        subst ht
        refine hread t ?_
        simp only [Oper.looksAt, List.mem_append, List.mem_filterMap]
        exact .inl ⟨.tmp t, by simpa using hx, rfl⟩)
      have hwant : awant ops (AD A ops vs (D listed) ops.size) o = awant ops (As i) o := by
        unfold awant
        split
        · rfl
        · rename_i g want hg
          cases hd : (ops[g]?).bind (·.dst) with
          | none => rfl
          | some d =>
            simp only
            rw [hread d (by simp [Oper.looksAt, hg, hd])]
      -- the next state
      let listed' := listed.setIfInBounds i true
      have hD' : ∀ j, D listed' j = (decide (j = i) || D listed j) := fun j => by
        simp only [D, listed', Array.getD_eq_getD_getElem?, Array.getElem?_setIfInBounds]
        by_cases hji : i = j
        · subst hji; simp [hlt]
        · simp [hji, Ne.symm hji]
      have hsz' : listed'.size = ops.size := by simpa [listed'] using hsz
      have hcl' : Closed ops (D listed') := fun j oj hoj hj e he hb => by
        rw [hD'] at hj ⊢
        simp only [Bool.or_eq_true, decide_eq_true_eq] at hj ⊢
        rcases hj with rfl | hj
        · rw [ho] at hoj; cases hoj; exact .inr (hpre1 e he hb)
        · exact .inr (hcl j oj hoj hj e he hb)
      have hAs_len : (As i).length = A.length := by
        have := AD_text tr (i := i) (by omega) ops.size (Nat.le_refl _)
        rw [show min ops.size i = i by omega] at this
        rw [← this, AD_len]
      have hAD' : AD A ops vs (D listed') ops.size = putA (AD A ops vs (D listed) ops.size) o.dst (vs i) := by
        apply List.ext_getElem?
        intro t
        rw [putA_get, AD_len]
        by_cases hd : o.dst = some t
        · rw [AD_same (E := fun j => decide (j < i + 1)) ops.size, AD_text tr (i := i + 1) (by omega) ops.size (Nat.le_refl _), show min ops.size (i + 1) = i + 1 by omega, (tr.step i o ho).1, putA_get, hAs_len]
          · by_cases htl : t < A.length
            · simp [hd, htl]
            · simp only [htl, and_false, if_false]
              rw [List.getElem?_eq_none (by omega), List.getElem?_eq_none (by rw [AD_len]; omega)]
          · intro j hj hdst
            rw [hD']
            by_cases hji : j = i
            · subst hji; simp
            · rw [hslot t (by simp [names, hd]) j hj hdst hji]
              simp only [hji, decide_false, Bool.false_or]
              congr 1; simp only [eq_iff_iff]; omega
        · simp only [hd, false_and, if_false]
          refine AD_same ops.size (fun j hj hdst => ?_)
          rw [hD']
          have : j ≠ i := fun e => by subst e; rw [ho] at hdst; exact hd hdst
          simp [this]
      have hun : unlisted ops.size listed' ≤ fuel := by
        have : unlisted ops.size listed' < unlisted ops.size listed := by
          refine filter_lt (x := i) (by simpa using hin) ?_ ?_ ?_
          · have := hDi; simp only [D] at this; simp [this]
          · have := hD' i; simp only [D, decide_true, Bool.true_or] at this; simp [this]
          · intro y _ hy
            have := hD' y; simp only [D] at this
            rw [this] at hy
            simp only [Bool.not_or, Bool.and_eq_true] at hy
            exact hy.2
        omega
      -- heaps
      have hHD_not : effW M o.op = false → HDM (effW M) (hs f) ops hs (D listed') ops.size = HDM (effW M) (hs f) ops hs (D listed) ops.size := fun he => by
        refine HDM_same ops.size (fun j oj hj hoj hje => ?_)
        rw [hD']
        have : j ≠ i := fun e => by subst e; rw [ho] at hoj; cases hoj; rw [he] at hje; cases hje
        simp [this]
      have hHD_tail : ∀ m k, m ≤ k → k ≤ ops.size → HDM (effW M) (hs f) ops hs (fun j => decide (j < m)) k = HDM (effW M) (hs f) ops hs (fun j => decide (j < m)) m := by
        intro m k
        induction k with
        | zero => intro h1 _; have : m = 0 := by omega
                  subst this; rfl
        | succ k ihk =>
          intro h1 h2
          by_cases hmk : m = k + 1
          · subst hmk; rfl
          · simp only [HDM]
            rw [if_neg (by simp; omega), ihk (by omega) (by omega)]
      have hHD_eff : effW M o.op = true → HDM (effW M) (hs f) ops hs (D listed) ops.size = hs i ∧ HDM (effW M) (hs f) ops hs (D listed') ops.size = hs (i + 1) := fun he => by
        have hfi : f ≤ i := by
          rcases Nat.lt_or_ge i f with q | q
          · rw [f2 i o q ho] at he; cases he
          · exact q
        have hDk : ∀ j oj, j < ops.size → ops[j]? = some oj → effW M oj.op = true → j ≠ i → D listed j = decide (j < i) := fun j oj hj hoj hje hji => by
          rcases Nat.lt_or_gt_of_ne hji with q | q
          · rw [ancD j (sim.eff j i oj o hoj ho hje he q)]; simp [q]
          · rw [notD j oj hoj (sim.eff i j o oj ho hoj he hje q)]; simp; omega
        constructor
        · rw [HDM_same (E := fun j => decide (j < i)) ops.size, hHD_tail i ops.size (by omega) (Nat.le_refl _), HDM_text rfl f2 hstay (fun _ _ => trivial) i hfi (by omega) (Nat.le_refl _)]
          intro j oj hj hoj hje
          by_cases hji : j = i
          · subst hji; rw [hDi]; simp
          · exact hDk j oj hj hoj hje hji
        · rw [HDM_same (E := fun j => decide (j < i + 1)) ops.size, hHD_tail (i + 1) ops.size (by omega) (Nat.le_refl _), HDM_text rfl f2 hstay (fun _ _ => trivial) (i + 1) (by omega) (by omega) (Nat.le_refl _)]
          intro j oj hj hoj hje
          rw [hD']
          by_cases hji : j = i
          · subst hji; simp
          · rw [hDk j oj hj hoj hje hji]
            simp only [hji, decide_false, Bool.false_or]
            congr 1; simp only [eq_iff_iff]; omega
      have hHD_first : allocK9 o.op = true → HDM (effW M) (hs f) ops hs (D listed) ops.size = hs f := fun hk => by
        refine HDM_none ops.size (fun j oj hj hoj hje => ?_)
        exact notD j oj hoj (sim.alloc i j o oj ho hoj hje hk).1
      have hHD_read : readsW M o.op = true → ∃ n, f ≤ n ∧ n ≤ ops.size ∧ HDM (effW M) (hs f) ops hs (D listed) ops.size = hs n ∧ (crossW M ops i n = true ∨ (i ≤ f ∧ n = f) ∨ (f ≤ i ∧ hs n = hs i)) := fun hk => by
        have heq : ∀ d k, f ≤ k → k + d ≤ ops.size → (∀ j y, k ≤ j → j < k + d → ops[j]? = some y → effW M y.op = false) → hs (k + d) = hs k := by
          intro d
          induction d with
          | zero => intro k _ _ _; rfl
          | succ d ihd =>
            intro k h1 h2 h3
            have hok : ops[k + d]? = some ops[k + d] := by simp [show k + d < ops.size by omega]
            rw [show k + (d + 1) = (k + d) + 1 by omega, hstay (k + d) _ (by omega) hok (h3 _ _ (by omega) (by omega) hok)]
            exact ihd k h1 (by omega) fun j y q1 q2 => h3 j y q1 (by omega)
        have same : ∀ n, f ≤ n → n ≤ ops.size → (∀ j y, ops[j]? = some y → effW M y.op = true → (j < n ↔ j < i)) → f ≤ i → hs n = hs i := fun n h1 h2 h3 h4 => by
          rcases Nat.le_total n i with q | q
          · have := heq (i - n) n h1 (by omega) (fun j y q1 q2 hy => by
              cases he : effW M y.op
              · rfl
              · have := h3 j y hy he; omega)
            rw [show n + (i - n) = i by omega] at this; exact this.symm
          · have := heq (n - i) i h4 (by omega) (fun j y q1 q2 hy => by
              cases he : effW M y.op
              · rfl
              · have := h3 j y hy he; omega)
            rw [show i + (n - i) = n by omega] at this; exact this
        rcases HDM_last (ek := effW M) (hA := hs f) (ops := ops) (hs := hs) (D := D listed) ops.size with ⟨q1, q2⟩ | ⟨k, y, q1, q2, q3, q4, q5, q6⟩
        · refine ⟨f, Nat.le_refl _, f1, q1, ?_⟩
          by_cases hif : i ≤ f
          · exact .inr (.inl ⟨hif, rfl⟩)
          · by_cases hx : ∃ j y, ops[j]? = some y ∧ effW M y.op = true ∧ ¬ (j < f ↔ j < i)
            · refine .inl (cross_of (fun j y hy he hj => by rw [f2 j y hj hy] at he; cases he) (fun j y hy he hj => ?_) hx)
              cases hanc : isAnc (Region.before ops) j i
              · rfl
              · have h1 := ancD j hanc
                have h2 := q2 j y (size_of hy) hy he
                rw [h1] at h2; cases h2
            · refine .inr (.inr ⟨by omega, same f (Nat.le_refl _) f1 (fun j y hy he => ?_) (by omega)⟩)
              exact Classical.byContradiction fun hc => hx ⟨j, y, hy, he, hc⟩
        · have hfk : f ≤ k := by
            rcases Nat.lt_or_ge k f with q | q
            · rw [f2 k y q q2] at q3; cases q3
            · exact q
          refine ⟨k + 1, by omega, by omega, q5, ?_⟩
          by_cases hx : ∃ j y, ops[j]? = some y ∧ effW M y.op = true ∧ ¬ (j < k + 1 ↔ j < i)
          · refine .inl (cross_of (fun j z hz he hj => ?_) (fun j z hz he hj => ?_) hx)
            · cases hanc : isAnc (Region.before ops) i j
              · rfl
              · have h1 := notD j z hz hanc
                have h2 : D listed j = true := by
                  by_cases e : j = k
                  · subst e; exact q4
                  · exact anc_in hcl q2 q4 (sim.eff j k z y hz q2 he q3 (by omega))
                rw [h1] at h2; cases h2
            · cases hanc : isAnc (Region.before ops) j i
              · rfl
              · have h1 := ancD j hanc
                have h2 := q6 j z (by omega) (size_of hz) hz he
                rw [h1] at h2; cases h2
          · have hall : ∀ j z, ops[j]? = some z → effW M z.op = true → (j < k + 1 ↔ j < i) := fun j z hz he => Classical.byContradiction fun hc => hx ⟨j, z, hz, he, hc⟩
            have hki : k < i := (hall k y q2 q3).1 (by omega)
            exact .inr (.inr ⟨by omega, same (k + 1) (by omega) (by omega) hall (by omega)⟩)
      have hbases1 : ∀ γ ∈ G1.bases, γ.1 ≤ β.nb := by rw [st1.bases]; exact hβ
      have hpend : ∀ (G2 : Ghost) (w2 : World) (h2 : H), Step G1 (HDM (effW M) (hs f) ops hs (D listed) ops.size) w1 G2 h2 w2 → (∀ j oj, ops[j]? = some oj → allocK9 oj.op = true → D listed' j = false → awant ops (As j) oj = some true → G2.φ (hs j).blk.length = none) := by
        intro G2 w2 h2 st2 j oj hoj hjk hj hjw
        rw [hD'] at hj
        simp only [Bool.or_eq_false_iff, decide_eq_false_iff_not] at hj
        have hn := hpn j oj hoj hjk hj.2 hjw
        cases hq : G2.φ (hs j).blk.length with
        | none => rfl
        | some c =>
          -- it lies below what the heap holds now, so it was known before
          have hjf := before_f j oj hoj hjk
          have hnoeff : HDM (effW M) (hs f) ops hs (D listed) ops.size = hs f := HDM_none ops.size (fun k ok hk hok hke => by
            cases hd : D listed k
            · rfl
            · have := anc_in hcl hok hd (sim.alloc j k oj ok hoj hok hke hjk).1
              rw [hj.2] at this; cases this)
          have hlt2 : (hs j).blk.length < (hs f).blk.length := by
            obtain ⟨z, _, _, _, _, _, hz, _⟩ := halloc j oj hoj hjk hjw
            have := hlens (j + 1) f (by omega) (Nat.le_refl _)
            rw [hz] at this; simp at this; omega
          have := st2.pend.1 _ c hq (by rw [hnoeff]; exact hlt2)
          rw [hn] at this; cases this
      show wpOp P ops Q i (wpAny P .any ops Q fuel listed') a1 w1
      unfold wpOp
      simp only [ho]
      rcases (tr.step i o ho).2 with ⟨hw, hop⟩ | ⟨hw, hv, hsame⟩
      · rw [awant_ok r1 (hwant.trans hw), if_pos rfl]
        left
        rcases sim.kind i o ho with hk | hk | hk
        · -- quiet
          have hneff : effW M o.op = false := quietW_not_eff hk
          have haop : aop P (S) β o (AD A ops vs (D listed) ops.size) (HDM (effW M) (hs f) ops hs (D listed) ops.size) = some (vs i, HDM (effW M) (hs f) ops hs (D listed) ops.size) := by
            rw [aop_congr hev]
            obtain ⟨g, hg1, hg2, hg3⟩ := quiet_formV (P := P) hp (β := β) (A := As i) hk (hVc i o ho hk hw)
            rw [hg1, Option.map_eq_some_iff] at hop
            obtain ⟨v, hv1, hv2⟩ := hop
            simp only [Prod.mk.injEq] at hv2
            rw [hg1]
            cases hrd : readsH o.op
            · rw [hg2 hrd _ (hs i), hv1, hv2.1]; rfl
            · have hrv : readsW M o.op = true := by simp [readsW, hrd, quietW_not_eff hk]
              obtain ⟨n, n1, n2, hH, hcr | ⟨hif, rfl⟩ | ⟨hfi, hhs⟩⟩ := hHD_read hrv
              · rw [hH]
                have hpre := trace_arun tr n 0 (by omega)
                rw [tr.a0, tr.h0, List.drop_zero, Nat.zero_add] at hpre
                have q1 := hcom As hs vs tr i o n ho hrv n2 hcr hw _ _ hpre
                rw [hg1] at q1
                exact q1
              · rw [hH]
                obtain ⟨zs, hz⟩ := hpre i hif
                rw [hz, hg3 _ zs v hv1, hv2.1]; rfl
              · rw [hH, hhs, hv1, hv2.1]; rfl
          refine aop_ok hS s1 hbases1 r1 haop (fun G2 w2 u st2 s2 hrel => ?_)
          refine ih listed' G2 w2 _ hsz' hcl' ?_ ?_ ?_ (hpend G2 w2 _ st2) hun
          · rw [hHD_not hneff]; exact s2
          · rw [hHD_not hneff]; exact st1.trans st2
          · rw [hAD']; exact put_rel (r1.mono st2.le) hrel o.dst
        · -- alloc
          have hneff : effW M o.op = false := by simp [effW, hk]
          obtain ⟨z, mk, arr, e, um, hvi, hsi, hrel, hmk, hrun⟩ := halloc i o ho hk hw
          have hif := before_f i o ho hk
          have hHf := hHD_first hk
          have hblk : (hs f).blk[(hs i).blk.length]? = some z := by
            obtain ⟨zs, hzs⟩ := hpre (i + 1) (by omega)
            rw [hzs, hsi]; simp
          have hn := hpn i o ho hk hDi hw
          rw [hHf] at s1 st1
          have hbl : ∀ γ ∈ G1.bases, γ.1 ≤ (hs i).blk.length := fun γ hγ => by
            rw [st1.bases] at hγ
            have h1 := (s.bases γ hγ).1
            have h2 := hlens 0 i (Nat.zero_le _) (by omega)
            rw [tr.h0] at h2; omega
          obtain ⟨G2, hle2, s2, hφ2, hφo, hst⟩ := s1.allocPend hblk hn hbl e (hrel G1)
          have st2 := hst G h w st1 (by have := hlens 0 i (Nat.zero_le _) (by omega); rw [tr.h0] at this; exact this)
          have hex := hrun _ G1 a1 w1 hev r1
          unfold Oper.wp
          rw [hex]
          refine ih listed' G2 _ _ hsz' hcl' ?_ ?_ ?_ ?_ hun
          · rw [hHD_not hneff, hHf]; exact s2
          · rw [hHD_not hneff, hHf]; exact st2
          · rw [hAD', hvi]; exact put_rel (r1.mono hle2) (hmk G2 _ _ hφ2) o.dst
          · intro j oj hoj hjk hj hjw
            rw [hD'] at hj
            simp only [Bool.or_eq_false_iff, decide_eq_false_iff_not] at hj
            rw [hφo]
            · exact hpn j oj hoj hjk hj.2 hjw
            · have hjf := before_f j oj hoj hjk
              obtain ⟨z2, _, _, _, _, _, hz2, _⟩ := halloc j oj hoj hjk hjw
              rcases Nat.lt_or_gt_of_ne hj.1 with q | q
              · have := hlens (j + 1) i (by omega) (by omega)
                rw [hz2] at this; simp at this; omega
              · have := hlens (i + 1) j (by omega) (by omega)
                rw [hsi] at this; simp at this; omega
        · -- an effect
          obtain ⟨e1, e2⟩ := hHD_eff hk
          rw [e1] at s1 st1
          refine aop_ok hS s1 hbases1 r1 (by rw [aop_congr hev]; exact hop) (fun G2 w2 u st2 s2 hrel => ?_)
          refine ih listed' G2 w2 _ hsz' hcl' ?_ ?_ ?_ (hpend G2 w2 _ (by rw [e1]; exact st2)) hun
          · rw [e2]; exact s2
          · rw [e2]; exact st1.trans st2
          · rw [hAD']; exact put_rel (r1.mono st2.le) hrel o.dst
      · -- not wanted
        rw [awant_ok r1 (hwant.trans hw)]
        simp only [Bool.false_eq_true, if_false]
        have hsameHD : HDM (effW M) (hs f) ops hs (D listed') ops.size = HDM (effW M) (hs f) ops hs (D listed) ops.size := by
          by_cases he : effW M o.op = true
          · obtain ⟨e1, e2⟩ := hHD_eff he
            rw [e1, e2, hsame]
          · exact hHD_not (by simpa using he)
        refine ih listed' G1 w1 _ hsz' hcl' ?_ ?_ ?_ (hpend G1 w1 _ (.refl _ _ _)) hun
        · rw [hsameHD]; exact s1
        · rw [hsameHD]; exact st1
        · rw [hAD', hv]; exact put_rel r1 (undef_rel G1) o.dst
  have hD0 : ∀ j, D (Array.replicate ops.size false) j = false := fun j => by
    simp only [D, Array.getD_eq_getD_getElem?]
    by_cases hj : j < ops.size
    · simp [hj]
    · simp [hj]
  have hHD0 : HDM (effW M) (hs f) ops hs (D (Array.replicate ops.size false)) ops.size = hs f := HDM_none _ (fun j o _ _ _ => hD0 j)
  have hAD0 : ∀ k, AD A ops vs (D (Array.replicate ops.size false)) k = A := fun k => by
    induction k with
    | zero => rfl
    | succ k ihk => simp only [AD, hD0, Bool.false_eq_true, if_false, ihk]
  have s0 : SRel G (hs f) { w with drawn := w.drawn + 1 } := by rw [hzs0]; exact (s.pendBlocks zs0).drawn _
  have st0 : Step G h w G (hs f) { w with drawn := w.drawn + 1 } := by
    rw [hzs0]
    exact ⟨.refl G, rfl, rfl, rfl, Nat.le_refl _, fun _ _ _ => rfl, fun _ ho => .inl (ho.imp (fun ⟨b, sb, q1, q2⟩ => ⟨b, sb, q1, fun q => q2 (by rw [List.getElem?_append_left (s.dom.φ _ _ q1)]; exact q)⟩) fun q => q), rfl, ⟨fun _ _ h _ => h, by simp⟩, fun _ _ _ h => .inl h⟩
  refine main ops.size _ G _ a (by simp) (fun j o _ hj => by rw [hD0] at hj; cases hj) (by rw [hHD0]; exact s0) (by rw [hHD0]; exact st0) (by rw [hAD0]; exact r) ?_ ?_
  · intro j o hoj hk _ hw
    cases hq : G.φ (hs j).blk.length with
    | none => rfl
    | some c =>
      have h1 := s.dom.φ _ c hq
      have h2 := hlens 0 j (Nat.zero_le _) (by have := before_f j o hoj hk; omega)
      rw [tr.h0] at h2; omega
  · unfold unlisted
    have := List.length_filter_le (fun i => !(Array.replicate ops.size false).getD i false) (List.range ops.size)
    simpa using this

theorem drawN_any {M N : FuncId → Bool} {S : Summ} {p : Pures} (hm : P.follows .mixedOrders = true) {β : Base} (hS : SummB P β.nb S) (hp : PureBut S M p) (hK : FreeS S N) {ops : Array Oper} (hsim : simpleRegionN N M ops = true) {A : List AV} {h : H} {A' : List AV} {h' : H} (hr : arun P (S) β ops ops.toList A h = some (A', h'))
    {a : Act} (s : SRel G h w) (hβ : ∀ γ ∈ G.bases, γ.1 ≤ β.nb) (r : ARel G A a) {Q : Exit → Act → World → Prop} (hQ : ∀ G' a' w', Step G h w G' h' w' → SRel G' h' w' → ARel G' A' a' → Q .normal a' w') : wpAny P .any ops Q ops.size (Array.replicate ops.size false) a { w with drawn := w.drawn + 1 } := by
  simp only [simpleRegionN, Bool.and_eq_true] at hsim
  obtain ⟨⟨h1, h2⟩, h3⟩ := hsim
  refine drawT_any hm hS hp h1 hr (fun i o x args ts ho hop hv _ => ?_) (fun As hs vs tr i o n ho hrd hn hcr hw A1 hh _ => ?_) s hβ r hQ
  · have := Array.all_eq_true.1 h2 i (Array.getElem?_eq_some_iff.1 ho).1
    rw [(Array.getElem?_eq_some_iff.1 ho).2] at this
    rw [hv] at this; cases this
  · have h4 := List.all_eq_true.1 h3 (o, i) (by rw [List.mem_zipIdx_iff_getElem?]; simpa using ho)
    simp only [hrd, Bool.not_true, Bool.false_or, Bool.or_eq_true] at h4
    rcases h4 with h4 | h4
    · rcases (tr.step i o ho).2 with ⟨_, hop⟩ | ⟨q, _⟩
      · obtain ⟨g, args, ts, he, hg⟩ : ∃ g args ts, o.op = .call { callee := .value (.func g), args := args, argTypes := ts } ∧ N g = true := by
          cases hq : o.op <;> simp only [hq, freeOp, Bool.false_eq_true] at h4
          rename_i c
          obtain ⟨callee, args, ts⟩ := c
          cases callee with
          | value f => cases f <;> simp only [Bool.false_eq_true] at h4; exact ⟨_, args, ts, rfl, h4⟩
          | invoke r m => simp at h4
          | builtin b => simp at h4
        simp only [aop, he, aCall, aev, List.nil_append, List.append_nil] at hop ⊢
        exact hK g hg _ _ _ _ hop _
      · rw [hw] at q; cases q
    · have := List.all_eq_true.1 h4 n (by simp; omega)
      rw [hcr] at this; cases this
end
section
variable {P : Program}
theorem wSN_ok {E : Env} {M Nf : FuncId → Bool} (hR : Rests E M) (hK : FreeS E.S Nf) : ∀ (c : Code), allSimpleN Nf M c = true → ∀ (A : List AV) (h : H) (os : List Ans) (K : Kn), wS E c A h os K →
    SemC E.P (E.n = 300) E.β c A h (fun x A' h' => ∃ os', K x A' h' os') := by
  intro c
  induction c with
  | skip =>
    intro _ A h os K hw ro Ge he we en obs G w a t Q hQ
    exact wpIn_skip (hQ _ A h G a w ⟨os, hw⟩ t fun _ => .refl _)
  | label l =>
    intro _ A h os K hw ro Ge he we en obs G w a t Q hQ
    exact wpIn_label (hQ _ A h G a w ⟨os, hw⟩ t fun _ => .refl _)
  | exit id =>
    intro _ A h os K hw ro Ge he we en obs G w a t Q hQ
    exact wpIn_exit (hQ (.exit id) A h G a w ⟨os, hw⟩ t fun _ => .refl _)
  | ret =>
    intro _ A h os K hw ro Ge he we en obs G w a t Q hQ
    exact wpIn_ret (hQ .ret A h G a w ⟨os, hw⟩ t fun _ => .refl _)
  | region id ops d =>
    intro hs A h os K hw ro Ge he we en obs G w a t Q hQ
    simp only [wS] at hw
    obtain ⟨A', h', os', hea, hk⟩ := runW_ok hw
    have hβ' : ∀ γ ∈ G.bases, γ.1 ≤ E.β.nb := by rw [t.st.bases]; exact en.bases
    let Q0 : Exit → Act → World → Prop := fun e a' w' => e = .normal ∧ ∃ G', Step G h w G' h' w' ∧ SRel G' h' w' ∧ ARel G' A' a'
    have q1 : ∀ e a' w', Q0 e a' w' → e = .normal := fun e a' w' hq => hq.1
    have q2 : ∀ a' w', Q0 .normal a' w' → a'.defers = [] := fun a' w' hq => by obtain ⟨_, _, _, _, r⟩ := hq; exact r.defers
    have q3 : ∀ a' w', Q0 .normal a' w' → Q .normal { a' with defers := a.defers } w' := fun a' w' hq => by
      obtain ⟨_, G', st, s, r⟩ := hq
      exact hQ .normal A' h' G' _ w' ⟨os', hk⟩ (t.region st s r) fun _ => st.le
    cases d
    · refine wpIn_region ?_
      have := arun_ok hR.summ (Q := Q0) ops.toList 0 A h G w (Act.bare a) A' h' (by simp) t.s hβ' t.r hea (fun G' a' w' st' s' r' => ⟨rfl, G', st', s', r'⟩)
      rw [← List.range_eq_range', Array.length_toList] at this
      exact ops_in (a := Act.bare a) (ds := a.defers) q1 q2 q3 _ w this
    · simp only [allSimpleN] at hs
      obtain ⟨p, hp⟩ := hR.pure
      refine wpIn_region_any hR.mixed ?_
      rw [Bool.or_eq_true] at hs
      rcases hs with hs | hs
      · have := drawM_any hR.mixed hR.summ hp hs hea t.s hβ' t.r (Q := Q0) (fun G' a' w' st' s' r' => ⟨rfl, G', st', s', r'⟩)
        exact any_in (a := Act.bare a) (ds := a.defers) q1 q2 q3 _ _ _ this
      · have := drawN_any hR.mixed hR.summ hp hK hs hea t.s hβ' t.r (Q := Q0) (fun G' a' w' st' s' r' => ⟨rfl, G', st', s', r'⟩)
        exact any_in (a := Act.bare a) (ds := a.defers) q1 q2 q3 _ _ _ this
  | seq x y ihx ihy =>
    intro hs A h os K hw ro Ge he we en obs G w a t Q hQ
    simp only [allSimpleN, Bool.and_eq_true] at hs
    simp only [wS] at hw
    refine wpIn_seq ?_
    refine ihx hs.1 _ _ _ _ hw ro Ge he we en obs G w a t _ (fun x1 A1 h1 G1 a1 w1 hk t1 l1 => ?_)
    obtain ⟨os1, hk⟩ := hk
    cases x1
    · exact ihy hs.2 _ _ _ _ hk ro Ge he we en obs G1 w1 a1 t1 Q (fun x A' h' G' a' w' hk2 t2 l2 => hQ x A' h' G' a' w' hk2 t2 fun q => (l1 q).trans (l2 q))
    · exact hQ _ A1 h1 G1 a1 w1 ⟨os1, hk⟩ t1 l1
    · exact hQ _ A1 h1 G1 a1 w1 ⟨os1, hk⟩ t1 l1
  | cond o x y ihx ihy =>
    intro hs A h os K hw ro Ge he we en obs G w a t Q hQ
    simp only [allSimpleN, Bool.and_eq_true] at hs
    simp only [wS] at hw
    have hc := aev_rel t.r o
    split at hw
    · rename_i hbb; rw [hbb] at hc; simp only [VRel] at hc
      exact wpIn_cond_true hc (ihx hs.1 _ _ _ _ hw ro Ge he we en obs G w a t Q hQ)
    · rename_i hbb; rw [hbb] at hc; simp only [VRel] at hc
      exact wpIn_cond_false hc (ihy hs.2 _ _ _ _ hw ro Ge he we en obs G w a t Q hQ)
    · exact hw.elim
  | block id c ih =>
    intro hs A h os K hw ro Ge he we en obs G w a t Q hQ
    simp only [allSimpleN] at hs
    simp only [wS] at hw
    refine wpIn_block ?_
    refine ih hs _ _ _ _ hw ro Ge he we en obs G w a t _ (fun x1 A1 h1 G1 a1 w1 hk t1 l1 => ?_)
    obtain ⟨os1, hk⟩ := hk
    cases x1
    · exact hQ .normal A1 h1 G1 a1 w1 ⟨os1, hk⟩ t1 l1
    · rename_i i
      simp only at hk
      split at hk
      · rename_i hi
        simp only [AX.toExit, Exit.inBlock, hi, if_true]
        exact hQ .normal A1 h1 G1 a1 w1 ⟨os1, hk⟩ t1 l1
      · rename_i hi
        simp only [AX.toExit, Exit.inBlock, hi, if_false]
        exact hQ (.exit i) A1 h1 G1 a1 w1 ⟨os1, hk⟩ t1 l1
    · exact hQ .ret A1 h1 G1 a1 w1 ⟨os1, hk⟩ t1 l1
  | loop c ih =>
    intro hs A h os K hw
    simp only [allSimpleN] at hs
    simp only [wS] at hw
    split at hw
    · rename_i is outs os1
      refine (hw.1 A rfl rfl).mono ?_
      rintro x A' h' ⟨hN, hh⟩
      exact outs_hit hN hh hw.2
    · intro ro Ge he we en obs G w a t Q hQ
      exact wpIn_loop_rounds E.n (iterS_ok (ih hs) en E.n A h _ K hw G w a t Q hQ)
  | scope c ih =>
    intro hs A h os K hw ro Ge he we en obs G w a t Q hQ
    simp only [allSimpleN] at hs
    simp only [wS] at hw
    refine wpIn_scope ?_
    refine ih hs _ _ _ _ hw ro Ge he we en obs G w a t _ (fun x1 A1 h1 G1 a1 w1 hk t1 l1 => ?_)
    have hq := hQ x1 A1 h1 G1 a1 w1 hk t1 l1
    cases x1 <;> exact hq
  | rangeFunc g ps x y _ _ =>
    intro hs A h os K hw
    simp only [wS] at hw
    split at hw
    · rename_i is outs os1
      refine (hw.1 A rfl rfl).mono ?_
      rintro x A' h' ⟨hN, hh⟩
      exact outs_hit hN hh hw.2
    · exact hw.elim
  | _ => intro _ A h os K hw; exact hw.elim


theorem Body.callN {E : Env} {M Nf : FuncId → Bool} {f : FuncId} {fn : Func} {args : List AV} {h : H} {r : AV × H} (hb : Body E M fn args h r) (k : FokL E.P M f fn) (hs : allSimpleN Nf M (bd fn) = true) (hR : Rests E M) (hK : FreeS E.S Nf) (hβ : E.β = h.base) : CallOk E.P f args h r.1 r.2 := by
  obtain ⟨os, hw⟩ := hb.it
  exact sem_callL k hβ (wSN_ok hR hK (bd fn) hs _ h os _ hw)
end
end Go.VM
end
section
/- A contract at a small heap holds where its blocks lie at other places, among other blocks. -/
namespace Go.VM
set_option linter.unusedSectionVars false
variable [Inhabited Globs]
structure Agree (ρ : Nat → Nat) (n : Nat) (Gc G : Ghost) : Prop where
  φ : ∀ i, i < n → Gc.φ i = G.φ (ρ i)
  fr : Gc.fr = G.fr
def RV (ρ : Nat → Nat) (n : Nat) (x y : AV) : Prop := ∀ Gc G v, Agree ρ n Gc G → (VRel Gc x v ↔ VRel G y v)
def RVs (ρ : Nat → Nat) (n : Nat) (xs ys : List AV) : Prop := ∀ Gc G vs, Agree ρ n Gc G → (VRels Gc xs vs ↔ VRels G ys vs)
theorem RVs.nil {ρ : Nat → Nat} {n : Nat} : RVs ρ n [] [] := fun Gc G vs _ => by cases vs <;> simp [VRels]
theorem RVs.cons {ρ : Nat → Nat} {n : Nat} {x y : AV} {xs ys : List AV} (h : RV ρ n x y) (hs : RVs ρ n xs ys) : RVs ρ n (x :: xs) (y :: ys) := fun Gc G vs a => by
  simp only [VRels]
  constructor
  · rintro ⟨v1, vs1, e, h1, h2⟩; exact ⟨v1, vs1, e, (h Gc G v1 a).1 h1, (hs Gc G vs1 a).1 h2⟩
  · rintro ⟨v1, vs1, e, h1, h2⟩; exact ⟨v1, vs1, e, (h Gc G v1 a).2 h1, (hs Gc G vs1 a).2 h2⟩
theorem RV.same {ρ : Nat → Nat} {n : Nat} {x : AV} (h : x.bnd 0 0 0 = true) : RV ρ n x x := fun Gc G v a =>
  ⟨VRel.below ⟨fun b c hb => absurd hb (Nat.not_lt_zero _), fun c o x q => by rw [← a.fr]; exact q, fun t n x ht => absurd ht (Nat.not_lt_zero _), fun m c hm => absurd hm (Nat.not_lt_zero _)⟩ _ _ h,
   VRel.below ⟨fun b c hb => absurd hb (Nat.not_lt_zero _), fun c o x q => by rw [a.fr]; exact q, fun t n x ht => absurd ht (Nat.not_lt_zero _), fun m c hm => absurd hm (Nat.not_lt_zero _)⟩ _ _ h⟩
theorem RVs.same {ρ : Nat → Nat} {n : Nat} : ∀ {xs : List AV}, AV.bnds 0 0 0 xs = true → RVs ρ n xs xs
  | [], _ => .nil
  | x :: xs, h => by
    simp only [AV.bnds, Bool.and_eq_true] at h
    exact .cons (.same h.1) (RVs.same h.2)
theorem RV.ptr {ρ : Nat → Nat} {n b o : Nat} (h : b < n) : RV ρ n (.ptr b o) (.ptr (ρ b) o) := fun Gc G v a => by
  simp only [VRel, a.φ b h]
section
variable {P : Program}
def rhoN (ρ : Nat → Nat) (n N : Nat) (i : Nat) : Nat := if i < n then ρ i else N + (i - n)
structure RenOk (ρ : Nat → Nat) (bs bs' Bs Bs' : List (List AV)) : Prop where
  inj : ∀ i j, i < bs.length → j < bs.length → ρ i = ρ j → i = j
  lt : ∀ i, i < bs.length → ρ i < Bs.length
  cells : ∀ i cs, bs[i]? = some cs → ∃ Cs, Bs[ρ i]? = some Cs ∧ RVs ρ bs.length cs Cs ∧ Cs.length = cs.length
  grow : bs.length ≤ bs'.length
  len : Bs'.length = Bs.length + (bs'.length - bs.length)
  old : ∀ b, b < Bs.length → (∀ i, i < bs.length → ρ i ≠ b) → Bs'[b]? = Bs[b]?
  new : ∀ i cs, bs'[i]? = some cs → ∃ Cs, Bs'[rhoN ρ bs.length Bs.length i]? = some Cs ∧ RVs (rhoN ρ bs.length Bs.length) bs'.length cs Cs ∧ Cs.length = cs.length
  dead : ∀ i, i < bs.length → bs[i]? = some [] → bs'[i]? = some []
  live : ∀ i, bs.length ≤ i → bs'[i]? ≠ some []
theorem RenOk.d1 {ρ : Nat → Nat} {bs bs' Bs Bs' : List (List AV)} (k : RenOk ρ bs bs' Bs Bs') {i : Nat} (hi : i < bs.length) : Bs[ρ i]? = some [] ↔ bs[i]? = some [] := by
  obtain ⟨Cs, h1, _, h3⟩ := k.cells i bs[i] (by simp [hi])
  rw [h1, List.getElem?_eq_getElem hi]
  simp only [Option.some.injEq]
  constructor
  · intro e; rw [e] at h3; exact List.length_eq_zero_iff.1 h3.symm
  · intro e; rw [e] at h3; exact List.length_eq_zero_iff.1 h3
theorem RenOk.d2 {ρ : Nat → Nat} {bs bs' Bs Bs' : List (List AV)} (k : RenOk ρ bs bs' Bs Bs') {i : Nat} (hi : i < bs'.length) : Bs'[rhoN ρ bs.length Bs.length i]? = some [] ↔ bs'[i]? = some [] := by
  obtain ⟨Cs, h1, _, h3⟩ := k.new i bs'[i] (by simp [hi])
  rw [h1, List.getElem?_eq_getElem hi]
  simp only [Option.some.injEq]
  constructor
  · intro e; rw [e] at h3; exact List.length_eq_zero_iff.1 h3.symm
  · intro e; rw [e] at h3; exact List.length_eq_zero_iff.1 h3
def Ghost.at (G : Ghost) (ρ : Nat → Nat) (n : Nat) : Ghost := ⟨fun i => if i < n then G.φ (ρ i) else none, G.fr, fun _ _ => none, fun _ => none, []⟩
theorem at_φ {G : Ghost} {ρ : Nat → Nat} {n i : Nat} {c : Nat × Nat} (h : (G.at ρ n).φ i = some c) : i < n ∧ G.φ (ρ i) = some c := by
  simp only [Ghost.at] at h
  split at h
  · rename_i q; exact ⟨q, h⟩
  · cases h
theorem at_agree (G : Ghost) (ρ : Nat → Nat) (n : Nat) : Agree ρ n (G.at ρ n) G := ⟨fun i hi => by simp only [Ghost.at, if_pos hi], rfl⟩
theorem SRel.at {G : Ghost} {ρ : Nat → Nat} {bs bs' Bs Bs' : List (List AV)} {ts : List Nat} {ms : List (List (AV × AV))} {w : World} (k : RenOk ρ bs bs' Bs Bs') (s : SRel G ⟨Bs, ts, ms⟩ w) : SRel (G.at ρ bs.length) ⟨bs, [], []⟩ w := by
  refine ⟨⟨fun b c hq => (at_φ hq).1, fun _ _ _ hq => (by cases hq), fun _ _ hq => (by cases hq)⟩, ?_, fun t n ht => by simp at ht, fun m c hm => (by cases hm), s.fr, ?_, ?_, fun _ _ _ _ _ _ _ ht => by simp at ht, fun _ _ _ hq => (by cases hq), fun _ _ _ _ _ _ _ _ _ ht => by simp at ht, fun _ _ _ hq => (by cases hq), fun β hβ => (by cases hβ)⟩
  · intro i c hq
    obtain ⟨hi, h2⟩ := at_φ hq
    obtain ⟨Cs0, arr, e, q1, q2, q2', q3⟩ := s.blk _ c h2
    obtain ⟨Cs, g1, g2, g3⟩ := k.cells i bs[i] (by simp [hi])
    have q1 : Bs[ρ i]? = some Cs0 := q1
    rw [g1] at q1; cases q1
    exact ⟨bs[i], arr, e, by simp [hi], q2, q2', by rw [← g3]; exact (g2 _ _ _ (at_agree G ρ bs.length)).2 q3⟩
  · intro b b' c c' h1 h2 he
    obtain ⟨hi, h1⟩ := at_φ h1
    obtain ⟨hi', h2⟩ := at_φ h2
    rcases s.injφ _ _ c c' h1 h2 he with q | q | q
    · exact .inl (k.inj _ _ hi hi' q)
    · exact .inr (.inl ((k.d1 hi).1 q))
    · exact .inr (.inr ((k.d1 hi').1 q))
  · intro b c o hq hl
    obtain ⟨hi, h1⟩ := at_φ hq
    exact s.φfr _ c o h1 (fun q => hl ((k.d1 hi).1 q))
theorem own_at {G : Ghost} {ρ : Nat → Nat} {bs bs' Bs Bs' : List (List AV)} {ts : List Nat} {ms : List (List (AV × AV))} {c : Nat} (k : RenOk ρ bs bs' Bs Bs') (h : Own (G.at ρ bs.length) ⟨bs, [], []⟩ c) : ∃ i sb, i < bs.length ∧ G.φ (ρ i) = some (c, sb) ∧ Bs[ρ i]? ≠ some [] := by
  rcases h with ⟨b, sb, hb, hq⟩ | ⟨t, n, cap, z, ht, _⟩ | ⟨m, hm⟩
  · obtain ⟨hi, h1⟩ := at_φ hb
    exact ⟨b, sb, hi, h1, fun q => hq ((k.d1 hi).1 q)⟩
  · simp at ht
  · cases hm
theorem CallOkB.ren {f : FuncId} {args Args : List AV} {bs bs' Bs Bs' : List (List AV)} {v V : AV} {ρ : Nat → Nat} (k : RenOk ρ bs bs' Bs Bs') (ha : RVs ρ bs.length args Args) (hv : RV (rhoN ρ bs.length Bs.length) bs'.length v V)
    (hc : CallOkB P 0 f args ⟨bs, [], []⟩ v ⟨bs', [], []⟩) (ts : List Nat) (ms : List (List (AV × AV))) : CallOkB P 0 f Args ⟨Bs, ts, ms⟩ V ⟨Bs', ts, ms⟩ := by
  intro G w vs s hb hgl hr
  refine Calls.mono (hc (G.at ρ bs.length) w vs (s.at k) (fun γ hγ => (by cases hγ)) hgl ((ha _ _ _ (at_agree G ρ bs.length)).2 hr)) ?_
  rintro e w' ⟨G1, u, rfl, st, s', hvu⟩
  let G2 : Ghost := { G with φ := fun b => if b < Bs.length then G.φ b else G1.φ (bs.length + (b - Bs.length)), fr := G1.fr }
  have hφ1 : ∀ i, i < bs.length → G1.φ i = G.φ (ρ i) := fun i hi => by
    cases h : G.φ (ρ i) with
    | some c => exact st.le.φ i c (by simp only [Ghost.at, if_pos hi]; exact h)
    | none =>
      cases h1 : G1.φ i with
      | none => rfl
      | some c =>
        have := st.pend.1 i c h1 hi
        simp only [Ghost.at, if_pos hi, h] at this; cases this
  have hG2 : ∀ b, b < Bs.length → G2.φ b = G.φ b := fun b hb => by show (if b < Bs.length then _ else _) = _; rw [if_pos hb]
  have hG2n : ∀ b, ¬ b < Bs.length → G2.φ b = G1.φ (bs.length + (b - Bs.length)) := fun b hb => by show (if b < Bs.length then _ else _) = _; rw [if_neg hb]
  have ag : Agree (rhoN ρ bs.length Bs.length) bs'.length G1 G2 := ⟨fun i hi => by
    by_cases c : i < bs.length
    · rw [rhoN, if_pos c, hG2 _ (k.lt i c), hφ1 i c]
    · rw [rhoN, if_neg c, hG2n _ (by omega)]; congr 1; omega, rfl⟩
  have hle : G.Le G2 := ⟨fun b c q => by rw [hG2 b (s.dom.φ b c q)]; exact q, fun c o x q => st.le.fr c o x q, fun _ _ _ q => q, fun _ _ q => q⟩
  have hplace : ∀ b, b < Bs.length → (∃ i, i < bs.length ∧ ρ i = b) ∨ Bs'[b]? = Bs[b]? := fun b hb => by
    by_cases c : ∃ i, i < bs.length ∧ ρ i = b
    · exact .inl c
    · exact .inr (k.old b hb fun i hi e => c ⟨i, hi, e⟩)
  have hno : ∀ c, (∀ i sb, i < bs.length → Bs[ρ i]? ≠ some [] → G.φ (ρ i) ≠ some (c, sb)) → ¬ Own (G.at ρ bs.length) ⟨bs, [], []⟩ c := fun c hn ho => by
    obtain ⟨i, sb, h1, h2, h3⟩ := own_at (ts := ts) (ms := ms) k ho
    exact hn i sb h1 h3 h2
  have hkeep : ∀ c, c < w.heap.size → (∀ i sb, i < bs.length → Bs[ρ i]? ≠ some [] → G.φ (ρ i) ≠ some (c, sb)) → w'.heap[c]? = w.heap[c]? := fun c hl hn => st.keep c hl (hno c hn)
  have hfr : ∀ c o x, G1.fr c o = some x → c < w.heap.size → (∀ i sb, i < bs.length → Bs[ρ i]? ≠ some [] → G.φ (ρ i) ≠ some (c, sb)) → G.fr c o = some x := fun c o x q hl hn => by
    rcases st.frnew c o x q with q | q | q
    · exact q
    · omega
    · exact absurd q (hno c hn)
  -- dead stays dead
  have hdd : ∀ b, b < Bs.length → Bs[b]? = some [] → Bs'[b]? = some [] := fun b hb hd => by
    rcases hplace b hb with ⟨i, hi, rfl⟩ | q
    · have h1 := k.dead i hi ((k.d1 hi).1 hd)
      have := (k.d2 (i := i) (by have := k.grow; omega)).2 h1
      rwa [rhoN, if_pos hi] at this
    · rw [q]; exact hd
  have hnewlt : ∀ b c, ¬ b < Bs.length → G2.φ b = some c → bs.length + (b - Bs.length) < bs'.length := fun b c hb hq => by
    rw [hG2n b hb] at hq
    exact s'.dom.φ _ c hq
  -- whose cell is a new block's?
  have hnewc : ∀ b c, ¬ b < Bs.length → G2.φ b = some c → w.heap.size ≤ c.1 ∨ ∃ i sb, i < bs.length ∧ G.φ (ρ i) = some (c.1, sb) ∧ Bs[ρ i]? ≠ some [] := fun b c hb hq => by
    have hlt := hnewlt b c hb hq
    rw [hG2n b hb] at hq
    have ho : Own G1 ⟨bs', [], []⟩ c.1 := .inl ⟨_, c.2, hq, k.live _ (by omega)⟩
    rcases st.own c.1 ho with q | q
    · exact .inr (own_at (ts := ts) (ms := ms) k q)
    · exact .inl q
  refine ⟨G2, u, rfl, ?_, ?_, (hv _ _ _ ag).1 hvu⟩
  · refine ⟨hle, st.os, st.tape, st.output, st.size, fun c hl hn => hkeep c hl (fun i sb hi hlive hq => hn (.inl ⟨ρ i, sb, hq, hlive⟩)), fun c ho => ?_, rfl, ⟨fun b c q hb => by rw [hG2 b hb] at q; exact q, by show Bs.length ≤ Bs'.length; rw [k.len]; omega⟩, fun c o x q => ?_⟩
    · rcases ho with ⟨b, sb, hb, hq⟩ | ho
      · by_cases hlt : b < Bs.length
        · rw [hG2 b hlt] at hb
          exact .inl (.inl ⟨b, sb, hb, fun q => hq (hdd b hlt q)⟩)
        · rcases hnewc b _ hlt hb with q | ⟨i, sb', h1, h2, h3⟩
          · exact .inr q
          · exact .inl (.inl ⟨ρ i, sb', h2, h3⟩)
      · exact .inl (.inr ho)
    · rcases st.frnew c o x q with q | q | q
      · exact .inl q
      · exact .inr (.inl q)
      · obtain ⟨i, sb, h1, h2, h3⟩ := own_at (ts := ts) (ms := ms) k q
        exact .inr (.inr (.inl ⟨ρ i, sb, h2, h3⟩))
  · refine ⟨⟨fun b c hq => ?_, s.dom.tk, s.dom.mp⟩, ?_, ?_, ?_, s'.fr, ?_, ?_, ?_, s.tkle, s.injtk, s.injmp, fun β hβ => ?_⟩
    · show b < Bs'.length
      by_cases hlt : b < Bs.length
      · rw [k.len]; omega
      · have := hnewlt b c hlt hq
        rw [k.len]; omega
    · intro b c hq
      have hat : ∀ i, i < bs'.length → rhoN ρ bs.length Bs.length i = b → G1.φ i = some c → ∃ cs arr e, Bs'[b]? = some cs ∧ w'.heap[c.1]? = some (.cells arr e (0, 0)) ∧ arr.size = c.2 ∧ VRels G2 cs (arr.toList.take cs.length) := fun i hi hρ h1 => by
        obtain ⟨cs, arr, e, q1, q2, q2', q3⟩ := s'.blk i c h1
        obtain ⟨Cs, g1, g2, g3⟩ := k.new i cs q1
        rw [hρ] at g1
        exact ⟨Cs, arr, e, g1, q2, q2', by rw [g3]; exact (g2 _ _ _ ag).1 q3⟩
      by_cases hlt : b < Bs.length
      · rw [hG2 b hlt] at hq
        by_cases hpl : ∃ i, i < bs.length ∧ ρ i = b
        · obtain ⟨i, hi, rfl⟩ := hpl
          exact hat i (by have := k.grow; omega) (by rw [rhoN, if_pos hi]) (by rw [hφ1 i hi]; exact hq)
        · have hold := k.old b hlt fun i hi e => hpl ⟨i, hi, e⟩
          obtain ⟨cs, arr, e, q1, q2, q2', q3⟩ := s.blk b c hq
          have q1 : Bs[b]? = some cs := q1
          have hl : c.1 < w.heap.size := s.φ_lt hq
          by_cases hd : Bs[b]? = some []
          · rw [hd] at q1; cases q1
            by_cases hx : ∃ i sb, i < bs.length ∧ Bs[ρ i]? ≠ some [] ∧ G.φ (ρ i) = some (c.1, sb)
            · obtain ⟨i, sb, h1, h2, h3⟩ := hx
              obtain ⟨_, arr1, e1, _, g2, g2', _⟩ := s.blk (ρ i) _ h3
              rw [q2] at g2; cases g2
              obtain ⟨_, arr2, e2, _, k2, k2', _⟩ := s'.blk i _ (by rw [hφ1 i h1]; exact h3)
              exact ⟨[], arr2, e2, by show Bs'[b]? = _; rw [hold, hd], k2, by rw [k2', ← q2', g2'], by simp [VRels]⟩
            · refine ⟨[], arr, e, by show Bs'[b]? = _; rw [hold, hd], ?_, q2', by simp [VRels]⟩
              rw [hkeep c.1 hl (fun i sb h1 h2 h3 => hx ⟨i, sb, h1, h2, h3⟩)]; exact q2
          · refine ⟨cs, arr, e, by show Bs'[b]? = _; rw [hold]; exact q1, ?_, q2', VRels.mono hle _ _ q3⟩
            rw [hkeep c.1 hl (fun i sb hi hlv hq' => by
              rcases s.injφ (ρ i) b (c.1, sb) c hq' hq rfl with q | q | q
              · exact hpl ⟨i, hi, q⟩
              · exact hlv q
              · exact hd q)]; exact q2
      · have hl2 := hnewlt b c hlt hq
        rw [hG2n b hlt] at hq
        exact hat _ hl2 (by rw [rhoN, if_neg (by omega)]; omega) hq
    · intro t n ht
      obtain ⟨c, cap, size, cur, e, q1, q2, q3, q4, q5, q6⟩ := s.tok t n ht
      have hl : c < w.heap.size := s.own_lt (.inr (.inl ⟨t, n, cap, size, ht, q1⟩))
      have hn : ∀ i sb, i < bs.length → Bs[ρ i]? ≠ some [] → G.φ (ρ i) ≠ some (c, sb) := fun i sb _ _ hq => s.φtk (ρ i) (c, sb) t n cap size hq ht q1
      exact ⟨c, cap, size, cur, e, q1, by rw [hkeep c hl hn]; exact q2, q3, q4, q5, fun o x hx => q6 o x (hfr c o x hx hl hn)⟩
    · intro m c hm
      have hl : c < w.heap.size := s.own_lt (.inr (.inr ⟨m, hm⟩))
      obtain ⟨M, es, ck, q1, q2, q3⟩ := s.map m c hm
      have hn : ∀ i sb, i < bs.length → Bs[ρ i]? ≠ some [] → G.φ (ρ i) ≠ some (c, sb) := fun i sb _ _ hq => by
        obtain ⟨cs, arr, e, _, q5, _⟩ := s.blk (ρ i) (c, sb) hq
        rw [q2] at q5; cases q5
      exact ⟨M, es, ck, q1, by rw [hkeep c hl hn]; exact q2, q3.mono hle⟩
    · intro b b' c c' h1 h2 he
      have mix : ∀ b b' c c', b < Bs.length → ¬ b' < Bs.length → G2.φ b = some c → G2.φ b' = some c' → c.1 = c'.1 → Bs'[b]? = some [] ∨ Bs'[b']? = some [] := fun b b' c c' hb hb' h1 h2 he => by
        rw [hG2 b hb] at h1
        rcases hplace b hb with ⟨i, hi, rfl⟩ | hold
        · have hl2 := hnewlt b' c' hb' h2
          rw [hG2n b' hb'] at h2
          rcases s'.injφ i _ c c' (by rw [hφ1 i hi]; exact h1) h2 he with q | q | q
          · omega
          · have := (k.d2 (i := i) (by have := k.grow; omega)).2 q
            rw [rhoN, if_pos hi] at this
            exact .inl this
          · exact absurd q (k.live _ (by omega))
        · rcases hnewc b' c' hb' h2 with q | ⟨i, sb, g1, g2, g3⟩
          · have := s.φ_lt h1; omega
          · rcases s.injφ b (ρ i) c (c'.1, sb) h1 g2 he with q | q | q
            · subst q
              have hi := g1
              have hl2 := hnewlt b' c' hb' h2
              rw [hG2n b' hb'] at h2
              rcases s'.injφ i _ c c' (by rw [hφ1 i hi]; exact h1) h2 he with q | q | q
              · omega
              · have := (k.d2 (i := i) (by have := k.grow; omega)).2 q
                rw [rhoN, if_pos hi] at this
                exact .inl this
              · exact absurd q (k.live _ (by omega))
            · exact .inl (by rw [hold]; exact q)
            · exact absurd q g3
      by_cases hb : b < Bs.length <;> by_cases hb' : b' < Bs.length
      · rw [hG2 b hb] at h1
        rw [hG2 b' hb'] at h2
        rcases s.injφ b b' c c' h1 h2 he with q | q | q
        · exact .inl q
        · exact .inr (.inl (hdd b hb q))
        · exact .inr (.inr (hdd b' hb' q))
      · exact .inr (mix b b' c c' hb hb' h1 h2 he)
      · exact .inr ((mix b' b c' c hb' hb h2 h1 he.symm).symm)
      · have l1 := hnewlt b c hb h1
        have l2 := hnewlt b' c' hb' h2
        rw [hG2n b hb] at h1
        rw [hG2n b' hb'] at h2
        rcases s'.injφ _ _ c c' h1 h2 he with q | q | q
        · exact .inl (by omega)
        · exact absurd q (k.live _ (by omega))
        · exact absurd q (k.live _ (by omega))
    · intro b c o hq hlive
      have hlive : Bs'[b]? ≠ some [] := hlive
      by_cases hlt : b < Bs.length
      · rw [hG2 b hlt] at hq
        rcases hplace b hlt with ⟨i, hi, rfl⟩ | hold
        · refine s'.φfr i c o (by rw [hφ1 i hi]; exact hq) (fun q => hlive ?_)
          have := (k.d2 (i := i) (by have := k.grow; omega)).2 q
          rwa [rhoN, if_pos hi] at this
        · have hl : c.1 < w.heap.size := s.φ_lt hq
          have hlv0 : Bs[b]? ≠ some [] := by rw [← hold]; exact hlive
          cases hf : G1.fr c.1 o with
          | none => rfl
          | some x =>
            by_cases hpl : ∃ i, i < bs.length ∧ ρ i = b
            · obtain ⟨i, hi, rfl⟩ := hpl
              have := s'.φfr i c o (by rw [hφ1 i hi]; exact hq) (fun q => hlive (by
                have := (k.d2 (i := i) (by have := k.grow; omega)).2 q
                rwa [rhoN, if_pos hi] at this))
              rw [hf] at this; cases this
            · have := hfr c.1 o x hf hl (fun i sb hi hlv hq' => by
                rcases s.injφ (ρ i) b (c.1, sb) c hq' hq rfl with q | q | q
                · exact hpl ⟨i, hi, q⟩
                · exact hlv q
                · exact hlv0 q)
              rw [s.φfr b c o hq hlv0] at this; cases this
      · have hl2 := hnewlt b c hlt hq
        rw [hG2n b hlt] at hq
        exact s'.φfr _ c o hq (k.live _ (by omega))
    · intro b c t n cap sz hq ht htk
      have ht : ts[t]? = some n := ht
      have htk : G.tk t n = some (c.1, cap, sz) := htk
      by_cases hlt : b < Bs.length
      · rw [hG2 b hlt] at hq
        exact s.φtk b c t n cap sz hq ht htk
      · rcases hnewc b c hlt hq with q | ⟨i, sb, g1, g2, g3⟩
        · have := s.own_lt (.inr (.inl ⟨t, n, cap, sz, ht, htk⟩)); omega
        · exact s.φtk (ρ i) (c.1, sb) t n cap sz g2 ht htk
    · obtain ⟨h1, h2, h3, h4⟩ := s.bases β hβ
      have h0 := hb β hβ
      exact ⟨by show β.1 ≤ Bs'.length; omega, h2, h3, fun b c cs hq hlt hcs => by omega⟩
end
end Go.VM
end
section
/- Of what an open body leaves, some blocks are kept, at new places, and of each its first cells. -/
namespace Go.VM
set_option linter.unusedSectionVars false
variable [Inhabited Globs]
section
variable {P : Program}
structure KeepOk (σ : Nat → Nat) (n0 : Nat) (B B2 : List (List AV)) : Prop where
  n : n0 ≤ B2.length
  id : ∀ i, i < n0 → σ i = i
  inj : ∀ i j, i < B2.length → j < B2.length → σ i = σ j → i = j ∨ B2[i]? = some [] ∨ B2[j]? = some []
  cells : ∀ i cs2, B2[i]? = some cs2 → ∃ cs1, B[σ i]? = some cs1 ∧ cs2.length ≤ cs1.length ∧ RVs σ B2.length cs2 (cs1.take cs2.length)
theorem VRels.takeN {G : Ghost} : ∀ {xs : List AV} {vs : List Value} (m : Nat), VRels G xs vs → VRels G (xs.take m) (vs.take m)
  | [], vs, m, h => by
    simp only [VRels] at h
    subst h; simp [VRels]
  | x :: xs, vs, 0, h => by simp [VRels]
  | x :: xs, vs, m + 1, h => by
    simp only [VRels] at h
    obtain ⟨v1, vs1, rfl, h1, h2⟩ := h
    simp only [List.take_succ_cons, VRels]
    exact ⟨v1, vs1.take m, rfl, h1, VRels.takeN m h2⟩
theorem KeepOk.dead {σ : Nat → Nat} {n0 : Nat} {B B2 : List (List AV)} (k : KeepOk σ n0 B B2) {i : Nat} (hi : i < B2.length) (h : B[σ i]? = some []) : B2[i]? = some [] := by
  obtain ⟨cs1, h1, h2, _⟩ := k.cells i B2[i] (by simp [hi])
  rw [h] at h1; cases h1
  have : B2[i] = [] := List.length_eq_zero_iff.1 (by simpa using h2)
  rw [List.getElem?_eq_getElem hi, this]
theorem CallOkB.keep {f : FuncId} {args : List AV} {bs B B2 : List (List AV)} {v V : AV} {σ : Nat → Nat} (k : KeepOk σ bs.length B B2) (hv : RV σ B2.length V v)
    (hc : CallOkB P 0 f args ⟨bs, [], []⟩ v ⟨B, [], []⟩) : CallOkB P 0 f args ⟨bs, [], []⟩ V ⟨B2, [], []⟩ := by
  intro G w vs s hb hgl hr
  refine Calls.mono (hc G w vs s hb hgl hr) ?_
  rintro e w' ⟨G1, u, rfl, st, s1, hvu⟩
  let G2 : Ghost := { G1 with φ := fun i => if i < B2.length then G1.φ (σ i) else none }
  have hφ : ∀ {i c}, G2.φ i = some c → i < B2.length ∧ G1.φ (σ i) = some c := fun {i c} h => by
    have h : (if i < B2.length then G1.φ (σ i) else none) = some c := h
    split at h
    · rename_i q; exact ⟨q, h⟩
    · cases h
  have hφ' : ∀ {i}, i < B2.length → G2.φ i = G1.φ (σ i) := fun {i} h => by show (if i < B2.length then G1.φ (σ i) else none) = _; rw [if_pos h]
  have ag : Agree σ B2.length G2 G1 := ⟨fun i hi => hφ' hi, rfl⟩
  have hown : ∀ c, Own G2 ⟨B2, [], []⟩ c → Own G1 ⟨B, [], []⟩ c := fun c ho => by
    rcases ho with ⟨b, sb, hb, hq⟩ | ho
    · obtain ⟨hi, h1⟩ := hφ hb
      exact .inl ⟨σ b, sb, h1, fun q => hq (k.dead hi q)⟩
    · exact .inr ho
  refine ⟨G2, u, rfl, ?_, ?_, (hv _ _ _ ag).2 hvu⟩
  · refine ⟨⟨fun b c q => ?_, st.le.fr, st.le.tk, st.le.mp⟩, st.os, st.tape, st.output, st.size, st.keep, fun c ho => st.own c (hown c ho), st.bases, ⟨fun b c q hlt => ?_, k.n⟩, st.frnew⟩
    · have hlt : b < bs.length := s.dom.φ b c q
      have := k.n
      rw [hφ' (by omega), k.id b hlt]
      exact st.le.φ b c q
    · obtain ⟨_, h1⟩ := hφ q
      have hlt : b < bs.length := hlt
      rw [k.id b hlt] at h1
      exact st.pend.1 b c h1 hlt
  · refine ⟨⟨fun b c q => (hφ q).1, s1.dom.tk, s1.dom.mp⟩, ?_, fun t n ht => by simp at ht, fun m c hm => ?_, s1.fr, ?_, ?_, fun _ _ _ _ _ _ _ ht => by simp at ht, fun _ _ _ _ _ ht => by simp at ht, fun _ _ _ _ _ _ _ _ _ ht => by simp at ht, s1.injmp, fun β hβ => ?_⟩
    · intro i c hq
      obtain ⟨hi, h1⟩ := hφ hq
      obtain ⟨cs, arr, e, q1, q2, q2', q3⟩ := s1.blk _ c h1
      obtain ⟨cs1, g1, g2, g3⟩ := k.cells i B2[i] (by simp [hi])
      have q1 : B[σ i]? = some cs := q1
      rw [g1] at q1; cases q1
      refine ⟨B2[i], arr, e, by simp [hi], q2, q2', (g3 _ _ _ ag).2 ?_⟩
      have := VRels.takeN B2[i].length q3
      rwa [List.take_take, Nat.min_eq_left g2] at this
    · obtain ⟨M, es, ck, q1, _⟩ := s1.map m c hm
      simp at q1
    · intro b b' c c' h1 h2 he
      obtain ⟨hi, h1⟩ := hφ h1
      obtain ⟨hi', h2⟩ := hφ h2
      rcases s1.injφ _ _ c c' h1 h2 he with q | q | q
      · exact k.inj b b' hi hi' q
      · exact .inr (.inl (k.dead hi q))
      · exact .inr (.inr (k.dead hi' q))
    · intro b c o hq hl
      obtain ⟨hi, h1⟩ := hφ hq
      exact s1.φfr _ c o h1 (fun q => hl (k.dead hi q))
    · have hβ' : β ∈ G.bases := by rw [← st.bases]; exact hβ
      have h0 := hb β hβ'
      obtain ⟨h1, h2, h3, _⟩ := s1.bases β hβ
      exact ⟨by omega, h2, h3, fun b c cs hq hlt hcs => by omega⟩
end
end Go.VM
end
section
/- Package variables that are laid: tables of integers, by their cells. -/
namespace Go.VM
open Go.ChangeShapes Go.WideShapes Go.RowKit

theorem laid_ints {P : Program} {W : World} {name : String} {g : Nat} {t e : TypeId} {k : IntKind} {zs : List Int} {rest : List (String × DataW Unit)} {ps : List MemPlace}
    (hL : DataW.LaidVars P W ((name, .agg (zs.map fun z => .lit (.int k z))) :: rest) ps) (hg : P.globalNamed name = some g) (ht : (P.globals[g]?).map (·.type) = some t)
    (hu : P.underlying t = some (.array zs.length e)) (he : P.underlying e = some (.int k)) (hc : P.cellsOf e = 1) :
    (∀ (i : Nat) (v : Value), (zs.map fun z => Value.int k z)[i]? = some v → W.cell? ⟨g, i, none⟩ = some v) ∧ ∃ qs, DataW.LaidVars P W rest qs := by
  obtain ⟨g', t', cs, fuel, p, q, hg', ht', hv, hd, hr, _⟩ := hL
  obtain rfl := Option.some.inj (hg.symm.trans hg')
  obtain rfl := Option.some.inj (ht.symm.trans ht')
  refine ⟨fun i v hi => ?_, q, hr⟩
  obtain ⟨xs, m, _, ex, _, hl, hel⟩ := DataW.trod_array hu hd
  rw [List.getElem?_map, Option.map_eq_some_iff] at hi
  obtain ⟨z, hz, rfl⟩ := hi
  have hlt : i < zs.length := (List.getElem?_eq_some_iff.1 hz).1
  have hE := hel i hlt
  rw [hc, Nat.mul_one, List.getElem?_eq_getElem (by omega)] at hE
  obtain ⟨z', e1, e2, _⟩ := DataW.trod_int he hE
  have e3 : (xs.map (·.1)) = zs.map fun n => .lit (.int k n) := (DataW.agg.inj (Prod.mk.inj ex).1).symm
  have e4 : (xs.map (·.1))[i]? = (zs.map fun n => (DataW.lit (.int k n) : DataW Unit))[i]? := by rw [e3]
  rw [List.getElem?_map, List.getElem?_map, List.getElem?_eq_getElem (by omega : i < xs.length), hz, e2] at e4
  have hzz : z' = z := by
    simp only [Option.map_some, Option.some.injEq, DataW.lit.injEq, Lit.int.injEq, true_and] at e4
    exact e4
  subst hzz
  rw [World.var?_cell hg hv i]
  have : cs.toList[i]? = some (.int k z') := by
    have h0 : ((cs.toList.drop i).take 1)[0]? = some (.int k z') := by rw [e1]; rfl
    simpa using h0
  simpa using this
end Go.VM
end
section
/- A slice of integers that comes in: its elements are integers of 64 bits. -/
namespace Go.VM
set_option linter.unusedSectionVars false
variable [Inhabited Globs]
open Go.ChangeShapes Go.WideShapes Go.RowKit
section
variable {H : Type} {enc : TypeId × Value → H} {P : Program} {w : World} {held : Bool}
theorem open_listr {t e : TypeId} {fuel : Nat} {v : Value} {x : DataW H × List MemPlace} (ht : P.underlying t = some (.slice e)) (he : P.underlying e = some (.int .i64)) (hc : P.cellsOf e = 1)
    (h : DataW.trod enc P w 0 (fun _ => true) held fuel t [v] = some x) :
    ∃ (l : List Int) (k : RK), VRel (.ofCells (seen w)) (rowA (l, k)) v ∧ l.length ≤ maxLen ∧ (k.mt = true → l = []) ∧ ∀ i, i < l.length → -9223372036854775808 ≤ l.getD i i0 ∧ l.getD i i0 < 9223372036854775808 := by
  rcases open_ints ht he hc h with ⟨hv, _⟩ | ⟨a, len, cap, zs, hv, _, hl, hm, hz, _, hcell, hwf⟩
  · simp only [List.cons.injEq, and_true] at hv; subst hv
    exact ⟨[], .n, by simp [rowA, VRel, rr], by simp, fun _ => rfl, fun i hi => absurd hi (Nat.not_lt_zero _)⟩
  · simp only [List.cons.injEq, and_true] at hv; subst hv
    simp only [if_true] at hz
    by_cases hc0 : cap = 0
    · obtain rfl : len = 0 := by omega
      subst hc0
      exact ⟨[], .e, by simp only [rowA, VRel, rr]; exact .inl (.inr ⟨by simp, by simp, by simp, a, rfl⟩), by simp, fun _ => rfl, fun i hi => absurd hi (Nat.not_lt_zero _)⟩
    · have hs : a.spot = none := by
        have := cell_spot (hcell 0 (by omega))
        simpa [Addr.add] using this
      have hlen : (zs.take len).length = len := by rw [List.length_take]; omega
      refine ⟨zs.take len, .l, ?_, by omega, fun h => (by cases h), fun i hi => ?_⟩
      · simp only [rowA, VRel, rr, hlen]
        refine .inr ⟨a.block, a.off, cap, _, ?_, hl, hm, trivial, vrels_ints _, ?_⟩
        · obtain ⟨b, o, s⟩ := a
          simp only at hs; subst hs; rfl
        · intro i u hu
          rw [List.getElem?_map, Option.map_eq_some_iff] at hu
          obtain ⟨n, hn, rfl⟩ := hu
          have hi : i < len := by
            have := (List.getElem?_eq_some_iff.1 hn).1
            omega
          have := hcell i (by omega)
          rw [List.getElem?_take, if_pos hi] at hn
          have hg : zs.getD i 0 = n := by rw [List.getD_eq_getElem?_getD, hn]; rfl
          rw [hg] at this
          obtain ⟨b, o, s⟩ := a
          simp only at hs; subst hs
          rw [addr_add] at this
          exact this
      · have hiz : i < zs.length := by omega
        have hg : (zs.take len).getD i i0 = zs[i] := by
          rw [List.getD_eq_getElem?_getD, List.getElem?_take, if_pos (by omega), List.getElem?_eq_getElem hiz]; rfl
        have := hwf zs[i] (List.getElem_mem hiz)
        rw [hg]
        simp only [Lit.wf, Bool.and_eq_true, decide_eq_true_eq] at this
        have h1 : IntKind.i64.min = -9223372036854775808 := by decide
        have h2 : IntKind.i64.max = 9223372036854775807 := by decide
        rw [h1, h2] at this
        omega
end
end Go.VM
end
