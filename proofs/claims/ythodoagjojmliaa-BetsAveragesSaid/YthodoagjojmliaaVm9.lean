/- Own texts on reading the model, joined: VmVd. -/
import Derived.Test.YthodoagjojmliaaVm7
set_option linter.unusedSimpArgs false
set_option linter.unusedVariables false
set_option linter.unnecessarySimpa false
section
/- What makes one slice that is only read later, where its arguments may still be written. -/
namespace Go.VM
set_option linter.unusedSectionVars false
variable [Inhabited Globs]
section
variable {P : Program}
theorem CallOk.viewNo {f : FuncId} {args args' : List AV} {cs : List AV} {n z : Nat} (hc : CallOk P f args .nil (.sl cs n (.tok 0 z)) ⟨[], [n], []⟩) (hv : AV.flats cs = true) {h : H} (ha : Views h args' args) :
    CallOk P f args' h (.sl cs n .no) h := by
  intro G w vs s hgl hr
  refine (hc _ w vs (srel_cells seen_ok) (fun g i v q => s.fr _ _ _ (hgl g i v q)) (ha.rel s hr)).mono ?_
  rintro e w' ⟨G1, u, rfl, st, s1, hu⟩
  have hown0 : ∀ c, ¬ Own (.ofCells (seen w)) .nil c := fun c ho => by
    rcases ho with ⟨b, sb, hb, _⟩ | ⟨t, n, cap, sz, ht, _⟩ | ⟨m, hm⟩
    · cases hb
    · simp [H.nil] at ht
    · cases hm
  have hk : ∀ c, c < w.heap.size → w'.heap[c]? = w.heap[c]? := fun c hc => st.keep c hc (hown0 c)
  have hnew : ∀ c, Own G1 ⟨[], [n], []⟩ c → w.heap.size ≤ c := fun c ho => (st.own c ho).resolve_left (hown0 c)
  have s0 := s.grow hk
  obtain ⟨c, cap, size, cur, e, k1, k2, k3, k4, k5, k6⟩ := s1.tok 0 n rfl
  have hcn : w.heap.size ≤ c := hnew c (.inr (.inl ⟨0, n, cap, size, rfl, k1⟩))
  simp only [VRel] at hu
  rcases hu with (⟨h0, _⟩ | ⟨h0, _⟩) | ⟨c2, o, cap2, us, rfl, u1, u2, ⟨rfl, u3⟩, u4, u5⟩
  · cases h0
  · cases h0
  rw [k1] at u3; cases u3
  let G2 : Ghost := ⟨G.φ, fun a o => if a < w.heap.size then G.fr a o else if a = c then G1.fr a o else none, G.tk, G.mp, G.bases⟩
  have hle : G.Le G2 := by
    refine ⟨fun _ _ h => h, fun a o v hx => ?_, fun t m x hx => hx, fun _ _ h => h⟩
    show (if a < w.heap.size then _ else _) = _
    rw [if_pos (s.fr_lt hx)]; exact hx
  have hfr : ∀ a o v, G2.fr a o = some v → (a < w.heap.size ∧ G.fr a o = some v) ∨ (a = c ∧ G1.fr a o = some v) := fun a o v hx => by
    simp only [G2] at hx
    split at hx
    · rename_i q; exact .inl ⟨q, hx⟩
    · split at hx
      · rename_i q; exact .inr ⟨q, hx⟩
      · cases hx
  have tok_old : ∀ t m c cap sz, h.toks[t]? = some m → G.tk t m = some (c, cap, sz) → c < w.heap.size := fun t m c cap sz h1 h2 => s.own_lt (.inr (.inl ⟨t, m, cap, sz, h1, h2⟩))
  refine ⟨G2, _, rfl, ?_, ?_, ?_⟩
  · refine ⟨hle, st.os, st.tape, st.output, st.size, fun a ha _ => hk a ha, fun a ho => .inl ho, rfl, ⟨fun _ _ hx _ => hx, Nat.le_refl _⟩, fun a o x hx => ?_⟩
    rcases hfr a o x hx with ⟨_, q⟩ | ⟨rfl, _⟩
    · exact .inl q
    · exact .inr (.inl hcn)
  · refine ⟨⟨s.dom.φ, s.dom.tk, s.dom.mp⟩, fun b a hb => ?_, fun t m ht => ?_, fun m a hm => ?_, fun a o v hx => ?_, s.injφ, fun b a o hb hl => ?_, s.φtk, s.tkle, s.injtk, s.injmp, fun β hβ => s.bases β hβ⟩
    · obtain ⟨as, arr, e, h1, h2, h2', h3⟩ := s0.blk b a hb
      exact ⟨as, arr, e, h1, h2, h2', VRels.mono hle _ _ h3⟩
    · obtain ⟨a, cap', size, cur', e', q1, q2, q3, q4, q5, q6⟩ := s0.tok t m ht
      refine ⟨a, cap', size, cur', e', q1, q2, q3, q4, q5, fun o x hx => ?_⟩
      rcases hfr a o x hx with ⟨_, q⟩ | ⟨rfl, _⟩
      · exact q6 o x q
      · have := tok_old _ _ _ _ _ ht q1; omega
    · obtain ⟨M, es, ck, q1, q2, q3⟩ := s0.map m a hm
      exact ⟨M, es, ck, q1, q2, q3.mono hle⟩
    · rcases hfr a o v hx with ⟨_, q⟩ | ⟨_, q⟩
      · exact s0.fr a o v q
      · exact s1.fr a o v q
    · cases hq : G2.fr a.1 o with
      | none => rfl
      | some x =>
        rcases hfr a.1 o x hq with ⟨_, q⟩ | ⟨q0, _⟩
        · rw [s.φfr b a o hb hl] at q; cases q
        · have := s.φ_lt hb; omega
  · simp only [VRel]
    refine .inr ⟨c, 0, cap, us, rfl, u1, u2, trivial, VRels.flat cs us hv u4, fun i x hx => ?_⟩
    show (if c < w.heap.size then _ else _) = _
    rw [if_neg (by omega), if_pos rfl]
    exact u5 i x hx
end
end Go.VM
end
