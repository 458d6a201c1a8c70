/- Own texts on reading the model, joined: VmVd, VmFm. -/
import Derived.Test.YthodoagjojmliaaVm7
set_option linter.unusedSimpArgs false
set_option linter.unusedVariables false
set_option linter.unnecessarySimpa false
section
/- What makes one slice that is only read later, where its arguments may still be written. -/
namespace Go.VM
set_option linter.unusedSectionVars false
variable [Inhabited Globs]
section
variable {P : Program}
end
end Go.VM
end
section
/- A contract at a small heap holds at every heap that begins so: what lies behind it stays. -/
namespace Go.VM
set_option linter.unusedSectionVars false
variable [Inhabited Globs]
section
variable {P : Program}
/-- blocks that point to one another only -/
def H.closed (h : H) : Prop := h.toks = [] ∧ h.maps = [] ∧ ∀ cs ∈ h.blk, AV.bnds h.blk.length 0 0 cs = true
/-- what is known of the first blocks alone -/
def Ghost.sub (G : Ghost) (nb : Nat) : Ghost := ⟨fun b => if b < nb then G.φ b else none, G.fr, fun _ _ => none, fun _ => none, []⟩
theorem sub_φ {G : Ghost} {nb b : Nat} {c : Nat × Nat} (h : (G.sub nb).φ b = some c) : b < nb ∧ G.φ b = some c := by
  simp only [Ghost.sub] at h
  split at h
  · rename_i q; exact ⟨q, h⟩
  · cases h
theorem sub_below (G : Ghost) (nb : Nat) : G.LeBelow nb 0 0 (G.sub nb) := ⟨fun b c hb h => by simp only [Ghost.sub, if_pos hb]; exact h, fun _ _ _ h => h, fun t n x ht => absurd ht (Nat.not_lt_zero _), fun m c hm => absurd hm (Nat.not_lt_zero _)⟩
theorem SRel.sub {G : Ghost} {h : H} {zs : List (List AV)} {ts : List Nat} {ms : List (List (AV × AV))} {w : World} (hc : h.closed) (s : SRel G ⟨h.blk ++ zs, ts, ms⟩ w) : SRel (G.sub h.blk.length) h w where
  dom := ⟨fun b c hq => (sub_φ hq).1, fun _ _ _ hq => (by cases hq), fun _ _ hq => (by cases hq)⟩
  blk b c hq := by
    obtain ⟨h1, h2⟩ := sub_φ hq
    obtain ⟨cs, arr, e, q1, q2, q2', q3⟩ := s.blk b c h2
    have q4 : h.blk[b]? = some cs := by rw [List.getElem?_append_left h1] at q1; exact q1
    exact ⟨cs, arr, e, q4, q2, q2', VRels.below (sub_below G _) _ _ (hc.2.2 cs (List.mem_of_getElem? q4)) q3⟩
  tok t n ht := by rw [hc.1] at ht; cases ht
  map m c hm := by cases hm
  fr := s.fr
  injφ b b' c c' h1 h2 he := (s.injφ b b' c c' (sub_φ h1).2 (sub_φ h2).2 he).imp id (Or.imp (fun q => by have q : (h.blk ++ zs)[b]? = _ := q; rw [List.getElem?_append_left (sub_φ h1).1] at q; exact q) (fun q => by have q : (h.blk ++ zs)[b']? = _ := q; rw [List.getElem?_append_left (sub_φ h2).1] at q; exact q))
  φfr b c o hq hl := s.φfr b c o (sub_φ hq).2 (fun q => hl (by have q : (h.blk ++ zs)[b]? = _ := q; rw [List.getElem?_append_left (sub_φ hq).1] at q; exact q))
  φtk b c t n cap sz hq ht := by rw [hc.1] at ht; cases ht
  tkle t n x hx := by cases hx
  injtk t t' n n' c cap sz cap' sz' h1 := by rw [hc.1] at h1; cases h1
  injmp m m' c h1 := by cases h1
  bases β hβ := by cases hβ
theorem own_sub {G : Ghost} {h : H} {H' : H} {c : Nat} (hc : h.closed) (ho : Own (G.sub h.blk.length) h c) : ∃ b sb, b < h.blk.length ∧ G.φ b = some (c, sb) ∧ h.blk[b]? ≠ some [] := by
  rcases ho with ⟨b, sb, hb, hl⟩ | ⟨t, n, cap, sz, ht, _⟩ | ⟨m, hm⟩
  · exact ⟨b, sb, (sub_φ hb).1, (sub_φ hb).2, hl⟩
  · rw [hc.1] at ht; cases ht
  · cases hm

theorem CallOk.frame {f : FuncId} {args : List AV} {h : H} {v : AV} (hc : h.closed) (ha : AV.bnds h.blk.length 0 0 args = true) (hv : v.bnd h.blk.length 0 0 = true) (k : CallOk P f args h v h)
    (zs : List (List AV)) (ts : List Nat) (ms : List (List (AV × AV))) : CallOk P f args ⟨h.blk ++ zs, ts, ms⟩ v ⟨h.blk ++ zs, ts, ms⟩ := by
  intro G w vs s hgl hr
  refine Calls.mono (k (G.sub h.blk.length) w vs (s.sub hc) hgl (VRels.below (sub_below G _) _ _ ha hr)) ?_
  rintro e w' ⟨G', u, rfl, st, s', hvu⟩
  let G2 : Ghost := { G with fr := G'.fr }
  have hle : G.Le G2 := ⟨fun _ _ q => q, fun c o x q => st.le.fr c o x q, fun _ _ _ q => q, fun _ _ q => q⟩
  have hno : ∀ c, (∀ b sb, b < h.blk.length → h.blk[b]? ≠ some [] → G.φ b ≠ some (c, sb)) → ¬ Own (G.sub h.blk.length) h c := fun c hn ho => by
    obtain ⟨b, sb, h1, h2, h3⟩ := own_sub (H' := h) hc ho
    exact hn b sb h1 h3 h2
  have hkeep : ∀ c, c < w.heap.size → (∀ b sb, b < h.blk.length → h.blk[b]? ≠ some [] → G.φ b ≠ some (c, sb)) → w'.heap[c]? = w.heap[c]? := fun c hl hn => st.keep c hl (hno c hn)
  have hfr : ∀ c o x, G'.fr c o = some x → c < w.heap.size → (∀ b sb, b < h.blk.length → h.blk[b]? ≠ some [] → G.φ b ≠ some (c, sb)) → G.fr c o = some x := fun c o x q hl hn => by
    rcases st.frnew c o x q with q | q | q
    · exact q
    · omega
    · exact absurd q (hno c hn)
  have hbel : G'.LeBelow h.blk.length 0 0 G2 := ⟨fun b c hb q => (sub_φ (st.pend.1 b c q hb)).2, fun _ _ _ q => q, fun t n x ht => absurd ht (Nat.not_lt_zero _), fun m c hm => absurd hm (Nat.not_lt_zero _)⟩
  have hlv : ∀ b, b < h.blk.length → ((h.blk ++ zs)[b]? = some [] ↔ h.blk[b]? = some []) := fun b hb => by rw [List.getElem?_append_left hb]
  refine ⟨G2, u, rfl, ?_, ?_, VRel.below hbel _ _ hv hvu⟩
  · refine ⟨hle, st.os, st.tape, st.output, st.size, fun c hl hn => hkeep c hl (fun b sb hlt hlive hb => hn (.inl ⟨b, sb, hb, fun q => hlive ((hlv b hlt).1 q)⟩)), fun c ho => .inl ho, rfl, ⟨fun _ _ q _ => q, Nat.le_refl _⟩, fun c o x q => ?_⟩
    rcases st.frnew c o x q with q | q | q
    · exact .inl q
    · exact .inr (.inl q)
    · obtain ⟨b, sb, hlt, hb, hlive⟩ := own_sub (H' := h) hc q
      exact .inr (.inr (.inl ⟨b, sb, hb, fun q => hlive ((hlv b hlt).1 q)⟩))
  · refine ⟨⟨s.dom.φ, s.dom.tk, s.dom.mp⟩, ?_, ?_, ?_, s'.fr, s.injφ, ?_, s.φtk, s.tkle, s.injtk, s.injmp, s.bases⟩
    · intro b c hb
      by_cases hlt : b < h.blk.length
      · have hb' : G'.φ b = some c := st.le.φ b c (by simp only [Ghost.sub, if_pos hlt]; exact hb)
        obtain ⟨cs, arr, e, q1, q2, q2', q3⟩ := s'.blk b c hb'
        exact ⟨cs, arr, e, by rw [List.getElem?_append_left hlt]; exact q1, q2, q2', VRels.below hbel _ _ (hc.2.2 cs (List.mem_of_getElem? q1)) q3⟩
      · obtain ⟨cs, arr, e, q1, q2, q2', q3⟩ := s.blk b c hb
        have hl : c.1 < w.heap.size := s.φ_lt hb
        by_cases hd : (h.blk ++ zs)[b]? = some []
        · -- dead: whatever was done there
          have q1' : (h.blk ++ zs)[b]? = some cs := q1
          rw [hd] at q1'; cases q1'
          by_cases hx : ∃ b' sb, b' < h.blk.length ∧ h.blk[b']? ≠ some [] ∧ G.φ b' = some (c.1, sb)
          · obtain ⟨b', sb, h1, h2, h3⟩ := hx
            obtain ⟨_, arr1, e1, _, g2, g2', _⟩ := s.blk b' _ h3
            rw [q2] at g2; cases g2
            have hb' : G'.φ b' = some (c.1, sb) := st.le.φ b' _ (by simp only [Ghost.sub, if_pos h1]; exact h3)
            obtain ⟨_, arr2, e2, _, k2, k2', _⟩ := s'.blk b' _ hb'
            exact ⟨[], arr2, e2, hd, k2, by rw [k2', ← q2', g2'], by simp [VRels]⟩
          · refine ⟨[], arr, e, hd, ?_, q2', by simp [VRels]⟩
            rw [hkeep c.1 hl (fun b' sb h1 h2 h3 => hx ⟨b', sb, h1, h2, h3⟩)]; exact q2
        · refine ⟨cs, arr, e, q1, ?_, q2', VRels.mono hle _ _ q3⟩
          rw [hkeep c.1 hl (fun b' sb hb' hlv' hq => by
            rcases s.injφ b b' c _ hb hq rfl with q | q | q
            · omega
            · exact hd q
            · exact hlv' ((hlv b' hb').1 q))]; exact q2
    · intro t n ht
      obtain ⟨c, cap, size, cur, e, q1, q2, q3, q4, q5, q6⟩ := s.tok t n ht
      have hl : c < w.heap.size := s.own_lt (.inr (.inl ⟨t, n, cap, size, ht, q1⟩))
      have hn : ∀ b sb, b < h.blk.length → h.blk[b]? ≠ some [] → G.φ b ≠ some (c, sb) := fun b sb _ _ hq => s.φtk b (c, sb) t n cap size hq ht q1
      exact ⟨c, cap, size, cur, e, q1, by rw [hkeep c hl hn]; exact q2, q3, q4, q5, fun o x hx => q6 o x (hfr c o x hx hl hn)⟩
    · intro m c hm
      have hl : c < w.heap.size := s.own_lt (.inr (.inr ⟨m, hm⟩))
      obtain ⟨M, es, ck, q1, q2, q3⟩ := s.map m c hm
      have hn : ∀ b sb, b < h.blk.length → h.blk[b]? ≠ some [] → G.φ b ≠ some (c, sb) := fun b sb _ _ hq => by
        obtain ⟨cs, arr, e, _, q5, _⟩ := s.blk b (c, sb) hq
        rw [q2] at q5; cases q5
      exact ⟨M, es, ck, q1, by rw [hkeep c hl hn]; exact q2, q3.mono hle⟩
    · intro b c o hb hlive
      have hlive : (h.blk ++ zs)[b]? ≠ some [] := hlive
      by_cases hlt : b < h.blk.length
      · exact s'.φfr b c o (st.le.φ b c (by simp only [Ghost.sub, if_pos hlt]; exact hb)) (fun q => hlive ((hlv b hlt).2 q))
      · have hl : c.1 < w.heap.size := s.φ_lt hb
        cases hq : G2.fr c.1 o with
        | none => rfl
        | some x =>
          have := hfr c.1 o x hq hl (fun b' sb hb' hlv' hq' => by
            rcases s.injφ b b' c _ hb hq' rfl with q | q | q
            · omega
            · exact hlive q
            · exact hlv' ((hlv b' hb').1 q))
          rw [s.φfr b c o hb hlive] at this; cases this
/-! ### a table of calls at single heaps, for regions that are run in all their orders -/
structure TRow (P : Program) where
  f : FuncId
  args : List AV
  h : H
  v : AV
  h' : H
  ok : callable P f = true ∧ CallOk P f args h v h'
end
end Go.VM
end
