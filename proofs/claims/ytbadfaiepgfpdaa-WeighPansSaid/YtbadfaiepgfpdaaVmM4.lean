/- Regions that draw their order: one order serves all. -/
import Derived.Test.YtbadfaiepgfpdaaVmM3
namespace Go.VM
section
variable {P : Program} {G : Ghost} {w : World}

theorem SRel.pendBlocks {h : H} (s : SRel G h w) (zs : List (List AV)) : SRel G { h with blk := h.blk ++ zs } w := by
  refine ⟨⟨fun b c hb => by have := s.dom.φ b c hb; simp; omega, s.dom.tk, s.dom.mp⟩, fun b c hb => ?_, s.tok, s.map, s.fr, s.injφ, s.φfr, s.φtk, s.tkle, s.injtk, s.injmp, fun β hβ => ?_⟩
  · obtain ⟨cs, arr, e, h1, h2⟩ := s.blk b c hb
    exact ⟨cs, arr, e, by rw [List.getElem?_append_left (s.dom.φ b c hb)]; exact h1, h2⟩
  · obtain ⟨h1, h2, h3, h4⟩ := s.bases β hβ
    exact ⟨by simp; omega, h2, h3, fun b c cs hφ hb hcs => h4 b c cs hφ hb (by rwa [List.getElem?_append_left (s.dom.φ b c hφ)] at hcs)⟩

/-- an abstract block that was waiting comes to be -/
theorem SRel.allocPend {h : H} (s : SRel G h w) {b : Nat} {z : List AV} (hb : h.blk[b]? = some z) (hn : G.φ b = none) (hbase : ∀ β ∈ G.bases, β.1 ≤ b) {arr : Array Value} (e : TypeId) (hv : VRels G z arr.toList) :
    ∃ G', G.Le G' ∧ SRel G' h (w.alloc (.cells arr e)) ∧ G'.φ b = some w.heap.size ∧ (∀ b', b' ≠ b → G'.φ b' = G.φ b') ∧
      ∀ (G0 : Ghost) (h0 : H) (w0 : World), Step G0 h0 w0 G h w → h0.blk.length ≤ b → Step G0 h0 w0 G' h (w.alloc (.cells arr e)) := by
  let G' : Ghost := { G with φ := fun x => if x = b then some w.heap.size else G.φ x }
  have hle : G.Le G' := ⟨fun x c hx => by
    show (if x = b then _ else _) = _
    rw [if_neg (fun e => by subst e; rw [hn] at hx; cases hx)]; exact hx, fun _ _ _ h => h, fun _ _ _ h => h, fun _ _ h => h⟩
  have hlt : b < h.blk.length := (List.getElem?_eq_some_iff.1 hb).1
  have hold : ∀ x c, G'.φ x = some c → (x = b ∧ c = w.heap.size) ∨ (x ≠ b ∧ G.φ x = some c) := fun x c hx => by
    by_cases e : x = b
    · left; refine ⟨e, ?_⟩; simp [G', e] at hx; exact hx.symm
    · right; exact ⟨e, by simpa [G', e] using hx⟩
  have s1 := s.garbage (.cells arr e)
  refine ⟨G', hle, ?_, by simp [G'], fun b' hb' => by simp [G', hb'], ?_⟩
  · refine ⟨⟨fun x c hx => ?_, s.dom.tk, s.dom.mp⟩, fun x c hx => ?_, s1.tok, fun m c hm => ?_, s1.fr, fun x x' c h1 h2 => ?_, fun x c o hx => ?_, fun x c t n cap sz hx ht hk => ?_, s.tkle, s.injtk, s.injmp, fun β hβ => ?_⟩
    · rcases hold x c hx with ⟨rfl, _⟩ | ⟨_, hx⟩
      · exact hlt
      · exact s.dom.φ x c hx
    · rcases hold x c hx with ⟨rfl, rfl⟩ | ⟨_, hx⟩
      · exact ⟨z, arr, e, hb, heap_alloc_new w _, VRels.mono hle _ _ hv⟩
      · obtain ⟨cs, arr', e', h1, h2, h3⟩ := s1.blk x c hx
        exact ⟨cs, arr', e', h1, h2, VRels.mono hle _ _ h3⟩
    · obtain ⟨M, es, ck, h1, h2, h3⟩ := s1.map m c hm
      exact ⟨M, es, ck, h1, h2, h3.mono hle⟩
    · rcases hold x c h1 with ⟨rfl, hc⟩ | ⟨_, q1⟩
      · rcases hold x' c h2 with ⟨rfl, _⟩ | ⟨_, q2⟩
        · rfl
        · exact absurd hc (Nat.ne_of_lt (s.own_lt (.inl ⟨_, q2⟩)))
      · rcases hold x' c h2 with ⟨_, hc⟩ | ⟨_, q2⟩
        · exact absurd hc (Nat.ne_of_lt (s.own_lt (.inl ⟨_, q1⟩)))
        · exact s.injφ x x' c q1 q2
    · rcases hold x c hx with ⟨rfl, rfl⟩ | ⟨_, hx⟩
      · cases hf : G.fr w.heap.size o with
        | none => rfl
        | some v => exact absurd (s.fr_lt hf) (Nat.lt_irrefl _)
      · exact s.φfr x c o hx
    · rcases hold x c hx with ⟨rfl, rfl⟩ | ⟨_, hx⟩
      · exact absurd (s.own_lt (.inr (.inl ⟨t, n, cap, sz, ht, hk⟩))) (Nat.lt_irrefl _)
      · exact s.φtk x c t n cap sz hx ht hk
    · obtain ⟨h1, h2, h3, h4⟩ := s.bases β hβ
      refine ⟨h1, h2, h3, fun x c cs hx hxb hcs => ?_⟩
      rcases hold x c hx with ⟨rfl, _⟩ | ⟨_, hx⟩
      · have := hbase β hβ; omega
      · exact h4 x c cs hx hxb hcs
  · intro G0 h0 w0 st hb0
    refine ⟨st.le.trans hle, st.os, st.tape, st.output, Nat.le_trans st.size (by simp), fun c hc hno => ?_, fun c ho => ?_, st.bases, ⟨fun x c hx hl => ?_, st.pend.2⟩, st.frnew⟩
    · rw [heap_alloc_old w _ c (Nat.lt_of_lt_of_le hc st.size)]; exact st.keep c hc hno
    · rcases ho with ⟨x, hx⟩ | ho
      · rcases hold x c hx with ⟨_, rfl⟩ | ⟨_, hx⟩
        · exact .inr st.size
        · exact st.own c (.inl ⟨x, hx⟩)
      · exact st.own c (.inr ho)
    · rcases hold x c hx with ⟨rfl, _⟩ | ⟨_, hx⟩
      · omega
      · exact st.pend.1 x c hx hl

/-- the heap behind the effects of D -/
def HD (hA : H) (ops : Array Oper) (hs : Nat → H) (D : Nat → Bool) : Nat → H
  | 0 => hA
  | k + 1 => if D k && (ops[k]?).any (fun o => effKind o.op) then hs (k + 1) else HD hA ops hs D k

theorem HD_same {hA : H} {ops : Array Oper} {hs : Nat → H} {D E : Nat → Bool} : ∀ k, (∀ j o, j < k → ops[j]? = some o → effKind o.op = true → D j = E j) → HD hA ops hs D k = HD hA ops hs E k
  | 0, _ => rfl
  | k + 1, h => by
    have ih := HD_same (hA := hA) (hs := hs) k (fun j o hj => h j o (by omega))
    simp only [HD]
    cases ho : ops[k]? with
    | none => simpa using ih
    | some o =>
      simp only [Option.any_some]
      by_cases he : effKind o.op = true
      · rw [h k o (by omega) ho he, ih]
      · have he' : effKind o.op = false := by simpa using he
        simp only [he', Bool.and_false, Bool.false_eq_true, if_false]; exact ih

theorem HD_none {hA : H} {ops : Array Oper} {hs : Nat → H} {D : Nat → Bool} (k : Nat) (h : ∀ j o, j < k → ops[j]? = some o → effKind o.op = true → D j = false) : HD hA ops hs D k = hA := by
  induction k with
  | zero => rfl
  | succ k ih =>
    simp only [HD]
    rw [if_neg, ih (fun j o hj => h j o (by omega))]
    intro hc
    simp only [Bool.and_eq_true] at hc
    cases ho : ops[k]? with
    | none => simp [ho] at hc
    | some o =>
      simp only [ho, Option.any_some] at hc
      rw [h k o (by omega) ho hc.2] at hc
      exact absurd hc.1 (by simp)

/-- in the text's order, behind the first effect -/
theorem HD_text {hA : H} {ops : Array Oper} {hs : Nat → H} {f : Nat} (hf : hA = hs f) (hfe : ∀ j o, j < f → ops[j]? = some o → effKind o.op = false) (hstay : ∀ j o, f ≤ j → ops[j]? = some o → effKind o.op = false → hs (j + 1) = hs j) (hsz : ∀ j, ops.size ≤ j → True) {i : Nat} :
    ∀ k, f ≤ k → k ≤ ops.size → k ≤ i → HD hA ops hs (fun j => decide (j < i)) k = hs k := by
  intro k
  induction k with
  | zero => intro h1 _ _; have : f = 0 := by omega
            subst this; exact hf
  | succ k ih =>
    intro h1 h2 h3
    by_cases hk : f ≤ k
    · simp only [HD]
      have ho : ops[k]? = some ops[k] := by simp [show k < ops.size by omega]
      simp only [ho, Option.any_some, show k < i by omega, decide_true, Bool.true_and]
      by_cases he : effKind ops[k].op = true
      · simp [he]
      · have he' : effKind ops[k].op = false := by simpa using he
        simp only [he', Bool.false_eq_true, if_false]
        rw [ih hk (by omega) (by omega), hstay k _ hk ho he']
    · have hfk : f = k + 1 := by omega
      subst hfk
      rw [HD_none]
      · exact hf
      · intro j o hj ho he
        rw [hfe j o hj ho] at he; cases he
end
end Go.VM
