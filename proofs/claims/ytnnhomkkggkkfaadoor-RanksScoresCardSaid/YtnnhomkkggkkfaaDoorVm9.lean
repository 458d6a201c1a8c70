/- Own texts on reading the model, joined: VmM8, VmZ4, VmPk, VmFr, VmFw, VmIs, VmGl, VmRw. -/
import Derived.Test.YtnnhomkkggkkfaaDoorVm8
import Derived.ChangeArms
import Derived.Test.YtnnhomkkggkkfaaDoorVm7
import Derived.ProofKit
import Derived.LaidLaws
import Derived.Lay
import Derived.OpenShut
set_option linter.unusedSimpArgs false
set_option linter.unusedVariables false
set_option linter.unnecessarySimpa false
section
/- Regions that draw their order, whose effects are calls that leave all blocks as they are: loads may come at any time. -/
namespace Go.VM
set_option linter.unusedSectionVars false
variable [Inhabited Globs]
section
variable {P : Program} {G : Ghost} {w : World}
def isLoad : Op → Bool
  | .load .. => true
  | _ => false
structure SimpleL (M : FuncId → Bool) (ops : Array Oper) : Prop where
  edge : ∀ (j : Nat) (y : Oper), ops[j]? = some y → ∀ e ∈ y.after, Region.binds .any e = true → e.on < j
  kind : ∀ (j : Nat) (y : Oper), ops[j]? = some y → quietM M y.op = true ∨ callN M y.op = true
  slot : ∀ (i j : Nat) (x y : Oper), ops[i]? = some x → ops[j]? = some y → i < j → hazard ops x y = true → isAnc (Region.before ops) i j = true
  read : ∀ (i j : Nat) (x y : Oper), ops[i]? = some x → ops[j]? = some y → callN M y.op = true → readsQ M x.op = true → isLoad x.op = false → (isAnc (Region.before ops) i j = true ∧ i < j) ∨ (isAnc (Region.before ops) j i = true ∧ j < i)
  eff : ∀ (i j : Nat) (x y : Oper), ops[i]? = some x → ops[j]? = some y → i < j → callN M x.op = true → callN M y.op = true → isAnc (Region.before ops) i j = true
end
end Go.VM
end
section
/- Code whose drawn regions may have loads behind calls that leave the blocks. -/
namespace Go.VM
set_option linter.unusedSectionVars false
variable [Inhabited Globs]
section
variable {P : Program}
/-- a function's body, read so -/
structure FokL (P : Program) (M : FuncId → Bool) (f : FuncId) (fn : Func) : Prop where
  mixed : P.follows .mixedOrders = true
  at_ : P.funcs[f]? = some fn
  body : fn.body = some (bd fn)
  call : callable P f = true
end
end Go.VM
end
section
/- A loop whose variable is captured: between its rounds all blocks from nb on are let go but one, which becomes the block nb. -/
namespace Go.VM
set_option linter.unusedSectionVars false
variable [Inhabited Globs]
section
variable {P : Program}
def H.pick (h : H) (nb p : Nat) : H := ⟨h.blk.take nb ++ (h.blk[p]?).toList, h.toks, h.maps⟩
def Ghost.pick (G : Ghost) (nb p : Nat) : Ghost := { G with φ := fun b => if b < nb then G.φ b else if b = nb then G.φ p else none }
theorem pick_below (G : Ghost) (nb p nt nm : Nat) : G.LeBelow nb nt nm (G.pick nb p) := ⟨fun b c hb h => by simp only [Ghost.pick, if_pos hb]; exact h, fun _ _ _ h => h, fun _ _ _ _ h => h, fun _ _ _ h => h⟩
theorem pick_φ {G : Ghost} {nb p b : Nat} {c : Nat × Nat} (h : (G.pick nb p).φ b = some c) : b ≤ nb ∧ G.φ (if b < nb then b else p) = some c := by
  simp only [Ghost.pick] at h
  split at h
  · rename_i hb; exact ⟨by omega, by rw [if_pos hb]; exact h⟩
  · rename_i hb
    split at h
    · exact ⟨by omega, by rw [if_neg hb]; exact h⟩
    · cases h
theorem pick_blk {h : H} {nb p b : Nat} {cp : List AV} (hp : h.blk[p]? = some cp) (hl : nb ≤ h.blk.length) (hb : b ≤ nb) : (h.pick nb p).blk[b]? = h.blk[if b < nb then b else p]? := by
  have hlen : (h.blk.take nb).length = nb := by rw [List.length_take]; omega
  simp only [H.pick, hp, Option.toList_some]
  by_cases c : b < nb
  · rw [if_pos c, List.getElem?_append_left (by omega), List.getElem?_take, if_pos c]
  · have : b = nb := by omega
    subst this
    rw [if_neg c, List.getElem?_append_right (by omega), hlen, hp]; simp
theorem pick_len {h : H} {nb p : Nat} {cp : List AV} (hp : h.blk[p]? = some cp) (hl : nb ≤ h.blk.length) : (h.pick nb p).blk.length = nb + 1 := by
  simp only [H.pick, hp, Option.toList_some, List.length_append, List.length_take, List.length_cons, List.length_nil]; omega
theorem SRel.pickH {G : Ghost} {h : H} {w : World} (s : SRel G h w) {nb p : Nat} (hpn : nb ≤ p) {cp : List AV} (hp : h.blk[p]? = some cp) (hcp : AV.bnds nb h.toks.length h.maps.length cp = true) (hc : h.clean nb) (hb : ∀ γ ∈ G.bases, γ.1 ≤ nb) : SRel (G.pick nb p) (h.pick nb p) w := by
  have hpl := (List.getElem?_eq_some_iff.1 hp).1
  have hl : nb ≤ h.blk.length := by omega
  have hlen := pick_len hp hl
  refine ⟨⟨fun b c hq => by rw [hlen]; have := (pick_φ hq).1; omega, s.dom.tk, s.dom.mp⟩, ?_, s.tok, ?_, s.fr, ?_, ?_, ?_, s.tkle, s.injtk, s.injmp, ?_⟩
  · intro b c hq
    obtain ⟨h1, h2⟩ := pick_φ hq
    obtain ⟨cs, arr, e, q1, q2, q2', q3⟩ := s.blk _ c h2
    refine ⟨cs, arr, e, by rw [pick_blk hp hl h1]; exact q1, q2, q2', VRels.below (pick_below G nb p h.toks.length h.maps.length) _ _ ?_ q3⟩
    by_cases c1 : b < nb
    · rw [if_pos c1] at q1
      exact hc cs (by
        have : (h.blk.take nb)[b]? = some cs := by rw [List.getElem?_take, if_pos c1]; exact q1
        exact List.mem_of_getElem? this)
    · rw [if_neg c1, hp] at q1
      cases q1; exact hcp
  · intro m c hm
    obtain ⟨M, es, ck, q1, q2, hMok, M', q3, q4, q5, q6⟩ := s.map m c hm
    refine ⟨M, es, ck, q1, q2, hMok, M', q3, q4, fun i kv e g1 g2 => ?_, q6⟩
    have hin := hMok.2 kv (q3.mem_iff.1 (List.mem_of_getElem? g1))
    obtain ⟨r1, r2⟩ := q5 i kv e g1 g2
    exact ⟨VRel.below (pick_below G 0 p 0 0 |> fun h => ⟨fun b c hb => absurd hb (Nat.not_lt_zero _), h.fr, fun t n x ht => absurd ht (Nat.not_lt_zero _), fun m c hm => absurd hm (Nat.not_lt_zero _)⟩) _ _ (key_bnd hin.1) r1,
      VRel.below (pick_below G 0 p 0 0 |> fun h => ⟨fun b c hb => absurd hb (Nat.not_lt_zero _), h.fr, fun t n x ht => absurd ht (Nat.not_lt_zero _), fun m c hm => absurd hm (Nat.not_lt_zero _)⟩) _ _ hin.2 r2⟩
  · intro b b' c c' h1 h2 he
    obtain ⟨g1, g2⟩ := pick_φ h1
    obtain ⟨g3, g4⟩ := pick_φ h2
    rw [pick_blk hp hl g1, pick_blk hp hl g3]
    refine (s.injφ _ _ c c' g2 g4 he).imp (fun e => ?_) id
    split at e <;> split at e <;> omega
  · intro b c o hq hb'
    obtain ⟨g1, g2⟩ := pick_φ hq
    rw [pick_blk hp hl g1] at hb'
    exact s.φfr _ c o g2 hb'
  · intro b c t n cap sz hq
    exact s.φtk _ c t n cap sz (pick_φ hq).2
  · intro β hβ
    obtain ⟨h1, h2, h3, h4⟩ := s.bases β hβ
    have hbb := hb β hβ
    refine ⟨by rw [hlen]; omega, h2, h3, fun b c cs hq hlt hcs => ?_⟩
    obtain ⟨q1, q2⟩ := pick_φ hq
    rw [pick_blk hp hl q1, if_pos (show b < nb by omega)] at hcs
    rw [if_pos (show b < nb by omega)] at q2
    exact h4 b c cs q2 hlt hcs
theorem own_pick {G : Ghost} {h : H} {nb p c : Nat} {cp : List AV} (hp : h.blk[p]? = some cp) (hl : nb ≤ h.blk.length) (ho : Own (G.pick nb p) (h.pick nb p) c) : Own G h c := by
  rcases ho with ⟨b, sb, hb, hq⟩ | ho
  · obtain ⟨g1, g2⟩ := pick_φ hb
    rw [pick_blk hp hl g1] at hq
    exact .inl ⟨_, sb, g2, hq⟩
  · exact .inr ho
theorem Step.pickH {G0 G : Ghost} {h0 h : H} {w0 w : World} (s0 : SRel G0 h0 w0) (st : Step G0 h0 w0 G h w) {nb p : Nat} {cp : List AV} (hp : h.blk[p]? = some cp) (hl : nb ≤ h.blk.length) (hn : h0.blk.length ≤ nb) : Step G0 h0 w0 (G.pick nb p) (h.pick nb p) w where
  le := ⟨fun b c hq => by
    have := s0.dom.φ b c hq
    simp only [Ghost.pick, if_pos (show b < nb by omega)]
    exact st.le.φ b c hq, st.le.fr, st.le.tk, st.le.mp⟩
  os := st.os
  tape := st.tape
  output := st.output
  size := st.size
  keep := st.keep
  own c ho := st.own c (own_pick hp hl ho)
  bases := st.bases
  pend := ⟨fun b c hq hlt => by
    obtain ⟨g1, g2⟩ := pick_φ hq
    rw [if_pos (show b < nb by omega)] at g2
    exact st.pend.1 b c g2 hlt, by rw [pick_len hp hl]; omega⟩
  frnew := st.frnew
/-- a slot behind the cut -/
def ren (nb nt nm p : Nat) (a : AV) : AV := if a.bnd nb nt nm then a else match a with
  | .ptr b o => if b = p then .ptr nb o else .top
  | _ => .top
theorem ren_rel {G : Ghost} {nb p : Nat} (nt nm : Nat) {x : AV} {v : Value} (h1 : VRel G x v) : VRel (G.pick nb p) (ren nb nt nm p x) v := by
  unfold ren
  split
  · rename_i hb; exact VRel.below (pick_below G nb p nt nm) _ _ hb h1
  · split
    · split
      · rename_i e
        subst e
        simp only [VRel] at h1 ⊢
        obtain ⟨c, g1, g2⟩ := h1
        exact ⟨c, by simp only [Ghost.pick, if_neg (Nat.lt_irrefl nb), if_true]; exact g1, g2⟩
      · simp only [VRel]
    · simp only [VRel]
theorem ren_rels {G : Ghost} {nb p : Nat} (nt nm : Nat) : ∀ {A : List AV} {us : List Value}, VRels G A us → VRels (G.pick nb p) (A.map (ren nb nt nm p)) us
  | [], us, h => by simpa only [List.map_nil, VRels] using h
  | x :: A, us, h => by
    simp only [VRels] at h
    obtain ⟨v, vs, e, h1, h2⟩ := h
    simp only [List.map_cons, VRels]
    exact ⟨v, vs, e, ren_rel nt nm h1, ren_rels nt nm h2⟩
theorem Stt.pick {ro : Option Nat} {obs : List (Nat × Obj)} {Ge : Ghost} {he : H} {we : World} {G : Ghost} {A : List AV} {h : H} {w : World} {a : Act} (t : Stt ro obs Ge he we G A h w a) {nb p : Nat} (hpn : nb ≤ p) {cp : List AV} (hp : h.blk[p]? = some cp) (hcp : AV.bnds nb h.toks.length h.maps.length cp = true) (hc : h.clean nb) (hb : ∀ γ ∈ G.bases, γ.1 ≤ nb)
    (s0 : SRel Ge he we) (hn : he.blk.length ≤ nb) : Stt ro obs Ge he we (G.pick nb p) (A.map (ren nb h.toks.length h.maps.length p)) (h.pick nb p) w a := by
  have hl : nb ≤ h.blk.length := by have := (List.getElem?_eq_some_iff.1 hp).1; omega
  refine ⟨t.st.pickH s0 hp hl hn, t.s.pickH hpn hp hcp hc hb, fun q hq => ⟨(t.keep q hq).1, fun ho => (t.keep q hq).2 (own_pick hp hl ho)⟩, ?_, t.ro, ⟨ren_rels _ _ t.r.tmps, t.r.defers, t.r.gl⟩⟩
  obtain ⟨Ds, e, hn', hB, hk⟩ := t.marks
  exact ⟨Ds, e, hn', hB, fun q hq => ⟨(hk q hq).1, fun ho => (hk q hq).2 (own_pick hp hl ho)⟩⟩
/-- what is asked of a block that is kept -/
structure Picks (nb p : Nat) (h : H) : Prop where
  le : nb ≤ p
  blk : ∃ cp, h.blk[p]? = some cp ∧ AV.bnds nb h.toks.length h.maps.length cp = true
theorem RangeS.less {S : Summ} {p : Pures} {β : Base} {n : Nat} {c : Code} {N : Nat} {is : List Nat} {vs : List AV} {h : H} {outs : List Out} (hr : RangeS ⟨P, S, p, β, 300⟩ c N is vs h outs) (hn : n ≠ 300) : RangeS ⟨P, S, p, β, n⟩ c N is vs h outs :=
  fun A hA hs ro Ge he we en obs G w a t Q hQ => hr A hA hs ro Ge he we en obs G w a t Q (fun x A' h' G' a' w' k t' _ => hQ x A' h' G' a' w' k t' fun q => absurd q hn)
/-- of what a call made, one block is kept -/
theorem CallOk.pick {f : FuncId} {args : List AV} {h h' : H} {p o n c z : Nat} {cp : List AV} (hc : CallOk P f args h (.msl p o n c z) h') (hp : h'.blk[p]? = some cp) (hnp : h.blk.length ≤ p)
    (hcp : AV.bnds h.blk.length h'.toks.length h'.maps.length cp = true) (hcl : h'.clean h.blk.length) : CallOk P f args h (.msl h.blk.length o n c z) (h'.pick h.blk.length p) := by
  intro G w vs s hgl hr
  refine (hc G w vs s hgl hr).mono ?_
  rintro e w' ⟨G1, u, rfl, st, s1, hv⟩
  have hl : h.blk.length ≤ h'.blk.length := st.pend.2
  refine ⟨G1.pick h.blk.length p, u, rfl, st.pickH s hp hl (Nat.le_refl _), s1.pickH hnp hp hcp hcl (fun γ hγ => ?_), ?_⟩
  · rw [st.bases] at hγ
    exact (s.bases γ hγ).1
  · simp only [VRel] at hv ⊢
    obtain ⟨x, q1, q2⟩ := hv
    exact ⟨x, by simp only [Ghost.pick, if_neg (Nat.lt_irrefl _), if_true]; exact q1, q2⟩
end
end Go.VM
end
section
/- Slices of structs of two numbers: read as slices of pairs; and such slices that are written. -/
namespace Go.VM
set_option linter.unusedSectionVars false
variable [Inhabited Globs]
open Go.ChangeShapes Go.WideShapes Go.RowKit
section
variable {H : Type} {enc : TypeId × Value → H} {P : Program} {w : World} {held : Bool}
end
end Go.VM
end
section
/- Slices of pairs that are made and written. -/
namespace Go.VM
set_option linter.unusedSectionVars false
variable [Inhabited Globs]
section
variable {P : Program} {t : TypeId}
end
end Go.VM
end
section
/- Slices of integers that append makes, in a heap that has blocks; two pure contracts as one. -/
namespace Go.VM
set_option linter.unusedSectionVars false
variable [Inhabited Globs]
theorem frz_ints (a b : Nat) (h : H) (k : Nat) : ∀ l : List Int, (ints l).map (frz a b h (k + 2)) = ints l
  | [] => rfl
  | x :: l => by
    show frz a b h (k + 2) (I x) :: (ints l).map (frz a b h (k + 2)) = I x :: ints l
    rw [frz_ints a b h k l]; rfl
end Go.VM
end
section
/- Package variables that are laid: tables of integers, by their cells. -/
namespace Go.VM
open Go.ChangeShapes Go.WideShapes Go.RowKit

theorem laid_ints {P : Program} {W : World} {name : String} {g : Nat} {t e : TypeId} {k : IntKind} {zs : List Int} {rest : List (String × DataW Unit)} {ps : List MemPlace}
    (hL : DataW.LaidVars P W ((name, .agg (zs.map fun z => .lit (.int k z))) :: rest) ps) (hg : P.globalNamed name = some g) (ht : (P.globals[g]?).map (·.type) = some t)
    (hu : P.underlying t = some (.array zs.length e)) (he : P.underlying e = some (.int k)) (hc : P.cellsOf e = 1) :
    (∀ (i : Nat) (v : Value), (zs.map fun z => Value.int k z)[i]? = some v → W.cell? ⟨g, i, none⟩ = some v) ∧ ∃ qs, DataW.LaidVars P W rest qs := by
  obtain ⟨g', t', cs, fuel, p, q, hg', ht', hv, hd, hr, _⟩ := hL
  obtain rfl := Option.some.inj (hg.symm.trans hg')
  obtain rfl := Option.some.inj (ht.symm.trans ht')
  refine ⟨fun i v hi => ?_, q, hr⟩
  obtain ⟨xs, m, _, ex, _, hl, hel⟩ := DataW.trod_array hu hd
  rw [List.getElem?_map, Option.map_eq_some_iff] at hi
  obtain ⟨z, hz, rfl⟩ := hi
  have hlt : i < zs.length := (List.getElem?_eq_some_iff.1 hz).1
  have hE := hel i hlt
  rw [hc, Nat.mul_one, List.getElem?_eq_getElem (by omega)] at hE
  obtain ⟨z', e1, e2, _⟩ := DataW.trod_int he hE
  have e3 : (xs.map (·.1)) = zs.map fun n => .lit (.int k n) := (DataW.agg.inj (Prod.mk.inj ex).1).symm
  have e4 : (xs.map (·.1))[i]? = (zs.map fun n => (DataW.lit (.int k n) : DataW Unit))[i]? := by rw [e3]
  rw [List.getElem?_map, List.getElem?_map, List.getElem?_eq_getElem (by omega : i < xs.length), hz, e2] at e4
  have hzz : z' = z := by
    simp only [Option.map_some, Option.some.injEq, DataW.lit.injEq, Lit.int.injEq, true_and] at e4
    exact e4
  subst hzz
  rw [World.var?_cell hg hv i]
  have : cs.toList[i]? = some (.int k z') := by
    have h0 : ((cs.toList.drop i).take 1)[0]? = some (.int k z') := by rw [e1]; rfl
    simpa using h0
  simpa using this
end Go.VM
end
section
/- A slice of integers that comes in: its elements are integers of 64 bits. -/
namespace Go.VM
set_option linter.unusedSectionVars false
variable [Inhabited Globs]
open Go.ChangeShapes Go.WideShapes Go.RowKit
section
variable {H : Type} {enc : TypeId × Value → H} {P : Program} {w : World} {held : Bool}
theorem open_listr {t e : TypeId} {fuel : Nat} {v : Value} {x : DataW H × List MemPlace} (ht : P.underlying t = some (.slice e)) (he : P.underlying e = some (.int .i64)) (hc : P.cellsOf e = 1)
    (h : DataW.trod enc P w 0 (fun _ => true) held fuel t [v] = some x) :
    ∃ (l : List Int) (k : RK), VRel (.ofCells (seen w)) (rowA (l, k)) v ∧ l.length ≤ maxLen ∧ (k.mt = true → l = []) ∧ ∀ i, i < l.length → -9223372036854775808 ≤ l.getD i i0 ∧ l.getD i i0 < 9223372036854775808 := by
  rcases open_ints ht he hc h with ⟨hv, _⟩ | ⟨a, len, cap, zs, hv, _, hl, hm, hz, _, hcell, hwf⟩
  · simp only [List.cons.injEq, and_true] at hv; subst hv
    exact ⟨[], .n, by simp [rowA, VRel, rr], by simp, fun _ => rfl, fun i hi => absurd hi (Nat.not_lt_zero _)⟩
  · simp only [List.cons.injEq, and_true] at hv; subst hv
    simp only [if_true] at hz
    by_cases hc0 : cap = 0
    · obtain rfl : len = 0 := by omega
      subst hc0
      exact ⟨[], .e, by simp only [rowA, VRel, rr]; exact .inl (.inr ⟨by simp, by simp, by simp, a, rfl⟩), by simp, fun _ => rfl, fun i hi => absurd hi (Nat.not_lt_zero _)⟩
    · have hs : a.spot = none := by
        have := cell_spot (hcell 0 (by omega))
        simpa [Addr.add] using this
      have hlen : (zs.take len).length = len := by rw [List.length_take]; omega
      refine ⟨zs.take len, .l, ?_, by omega, fun h => (by cases h), fun i hi => ?_⟩
      · simp only [rowA, VRel, rr, hlen]
        refine .inr ⟨a.block, a.off, cap, _, ?_, hl, hm, trivial, vrels_ints _, ?_⟩
        · obtain ⟨b, o, s⟩ := a
          simp only at hs; subst hs; rfl
        · intro i u hu
          rw [List.getElem?_map, Option.map_eq_some_iff] at hu
          obtain ⟨n, hn, rfl⟩ := hu
          have hi : i < len := by
            have := (List.getElem?_eq_some_iff.1 hn).1
            omega
          have := hcell i (by omega)
          rw [List.getElem?_take, if_pos hi] at hn
          have hg : zs.getD i 0 = n := by rw [List.getD_eq_getElem?_getD, hn]; rfl
          rw [hg] at this
          obtain ⟨b, o, s⟩ := a
          simp only at hs; subst hs
          rw [addr_add] at this
          exact this
      · have hiz : i < zs.length := by omega
        have hg : (zs.take len).getD i i0 = zs[i] := by
          rw [List.getD_eq_getElem?_getD, List.getElem?_take, if_pos (by omega), List.getElem?_eq_getElem hiz]; rfl
        have := hwf zs[i] (List.getElem_mem hiz)
        rw [hg]
        simp only [Lit.wf, Bool.and_eq_true, decide_eq_true_eq] at this
        have h1 : IntKind.i64.min = -9223372036854775808 := by decide
        have h2 : IntKind.i64.max = 9223372036854775807 := by decide
        rw [h1, h2] at this
        omega
end
end Go.VM
end
