/- append. -/
import Derived.Test.YtbadfaiepgfpdaaVmG4
namespace Go.VM
section
variable {P : Program} {G : Ghost} {h : H} {w : World}

def setTok (toks : List Nat) (k n : Nat) : List Nat := if k = toks.length then toks ++ [n] else toks.set k n
theorem setTok_get (toks : List Nat) (k n t : Nat) (hk : k ≤ toks.length) : (setTok toks k n)[t]? = if t = k then some n else toks[t]? := by
  unfold setTok
  split
  · rename_i e; subst e
    split
    · rename_i e; subst e; simp
    · rename_i e
      rcases Nat.lt_or_gt_of_ne e with h | h
      · rw [List.getElem?_append_left h]
      · rw [List.getElem?_eq_none (by simp; omega), List.getElem?_eq_none (by omega)]
  · rename_i e
    split
    · rename_i e'; subst e'; simp [List.getElem?_set]; omega
    · rename_i e'; rw [List.getElem?_set_ne (Ne.symm e')]
theorem setTok_len (toks : List Nat) (k n : Nat) (hk : k ≤ toks.length) : (setTok toks k n).length = max toks.length (k + 1) := by
  unfold setTok; split <;> simp <;> omega

/-- a token comes to stand at a block (new, or the one that it had) -/
theorem SRel.tokAt (s : SRel G h w) {k n : Nat} (hk : k ≤ h.toks.length) {c cap z : Nat} {cur : Array Value} {e : TypeId} (hh : w.heap[c]? = some (.cells cur e (0, 0))) (hs : cur.size = cap * z) (hn : n ≤ cap) (hc : cap ≤ maxLen)
    (hfr : ∀ o v, G.fr c o = some v → o < n * z) (hφ : ∀ b, G.φ b ≠ some c) (hoth : ∀ t m cap' z', t ≠ k → h.toks[t]? = some m → G.tk t m ≠ some (c, cap', z')) (hnew : ∀ m, h.toks[k]? = some m → m < n)
    (hbase : ∀ β ∈ G.bases, k = h.toks.length ∨ True) :
    ∃ G', G.Le G' ∧ G'.fr = G.fr ∧ G'.φ = G.φ ∧ G'.tk k n = some (c, cap, z) ∧ SRel G' { h with toks := setTok h.toks k n } w ∧ G'.bases = G.bases ∧
      (∀ c', Own G' { h with toks := setTok h.toks k n } c' → Own G h c' ∨ c' = c) := by
  have hfresh : G.tk k n = none := by
    cases hq : G.tk k n with
    | none => rfl
    | some x =>
      have hlt := s.dom.tk k n x hq
      obtain ⟨m, hm⟩ : ∃ m, h.toks[k]? = some m := ⟨h.toks[k], by simp [hlt]⟩
      have h1 := s.tkle k n x hq m hm
      have h2 := hnew m hm
      omega
  let G' : Ghost := { G with tk := fun t m => if t = k ∧ m = n then some (c, cap, z) else G.tk t m }
  have hle : G.Le G' := by
    refine ⟨fun _ _ h => h, fun _ _ _ h => h, fun t m x hx => ?_, fun _ _ h => h⟩
    show (if t = k ∧ m = n then _ else _) = _
    rw [if_neg]
    · exact hx
    · rintro ⟨rfl, rfl⟩; rw [hfresh] at hx; cases hx
  have hget := fun t => setTok_get h.toks k n t hk
  have hlen := setTok_len h.toks k n hk
  have htk : ∀ t m x, G'.tk t m = some x → (t = k ∧ m = n ∧ x = (c, cap, z)) ∨ G.tk t m = some x := fun t m x hx => by
    by_cases hq : t = k ∧ m = n
    · left; simp [G', hq] at hx; exact ⟨hq.1, hq.2, hx.symm⟩
    · right; simpa [G', hq] using hx
  have htok : ∀ t m x, (setTok h.toks k n)[t]? = some m → G'.tk t m = some x → (t = k ∧ m = n ∧ x = (c, cap, z)) ∨ (t ≠ k ∧ h.toks[t]? = some m ∧ G.tk t m = some x) := fun t m x h1 h2 => by
    rw [hget] at h1
    split at h1
    · rename_i e1; subst e1
      cases h1
      rcases htk _ _ _ h2 with ⟨_, _, rfl⟩ | h3
      · exact .inl ⟨rfl, rfl, rfl⟩
      · rw [hfresh] at h3; cases h3
    · rename_i e1
      rcases htk _ _ _ h2 with ⟨e2, _⟩ | h3
      · exact absurd e2 e1
      · exact .inr ⟨e1, h1, h3⟩
  refine ⟨G', hle, rfl, rfl, by simp [G'], ?_, rfl, ?_⟩
  · refine ⟨⟨s.dom.φ, fun t m x hx => ?_, s.dom.mp⟩, ?_, ?_, ?_, s.fr, s.injφ, s.φfr, ?_, ?_, ?_, s.injmp, ?_⟩
    · show t < (setTok h.toks k n).length
      rw [hlen]
      rcases htk t m x hx with ⟨rfl, _⟩ | h1
      · omega
      · have := s.dom.tk t m x h1; omega
    · intro b c' hb
      obtain ⟨cs, arr, e', h1, h2, h3⟩ := s.blk b c' hb
      exact ⟨cs, arr, e', h1, h2, VRels.mono hle _ _ h3⟩
    · intro t m ht
      simp only at ht
      rw [hget] at ht
      split at ht
      · rename_i e1; subst e1
        cases ht
        exact ⟨c, cap, z, cur, e, by simp [G'], hh, hs, hn, hc, hfr⟩
      · rename_i e1
        obtain ⟨c', cap', size, cur', e', h1, h2⟩ := s.tok t m ht
        exact ⟨c', cap', size, cur', e', hle.tk _ _ _ h1, h2⟩
    · intro m c' hm
      obtain ⟨M, es, clock, h1, h2, h3⟩ := s.map m c' hm
      exact ⟨M, es, clock, h1, h2, h3.mono hle⟩
    · intro b c' t m cap' sz hb ht hk'
      rcases htok t m _ ht hk' with ⟨rfl, rfl, e1⟩ | ⟨_, h1, h2⟩
      · cases e1; exact hφ b hb
      · exact s.φtk b c' t m cap' sz hb h1 h2
    · intro t m x hx cu ht
      simp only at ht
      rw [hget] at ht
      split at ht
      · rename_i e1; subst e1
        cases ht
        rcases htk t m x hx with ⟨_, rfl, _⟩ | h1
        · exact Nat.le_refl _
        · have hlt := s.dom.tk t m x h1
          obtain ⟨m', hm'⟩ : ∃ m, h.toks[t]? = some m := ⟨h.toks[t], by simp [hlt]⟩
          have := s.tkle t m x h1 m' hm'
          have := hnew m' hm'
          omega
      · rename_i e1
        rcases htk t m x hx with ⟨e2, _⟩ | h1
        · exact absurd e2 e1
        · exact s.tkle t m x h1 cu ht
    · intro t t' m m' c' cap1 s1 cap2 s2 ht ht' hk1 hk2
      rcases htok t m _ ht hk1 with ⟨rfl, rfl, e1⟩ | ⟨n1, h1, h2⟩ <;> rcases htok t' m' _ ht' hk2 with ⟨rfl, rfl, e2⟩ | ⟨n2, h3, h4⟩
      · rfl
      · cases e1; exact absurd h4 (hoth t' m' _ _ n2 h3)
      · cases e2; exact absurd h2 (hoth t m _ _ n1 h1)
      · exact s.injtk t t' m m' c' cap1 s1 cap2 s2 h1 h3 h2 h4
    · intro β hβ
      obtain ⟨h1, h2, h3, h4⟩ := s.bases β hβ
      refine ⟨h1, ?_, h3, h4⟩
      show β.2.1 ≤ (setTok h.toks k n).length
      rw [hlen]; omega
  · intro c' ho
    rcases ho with ⟨b, hb⟩ | ⟨t, m, cap', sz, ht, hk'⟩ | ho
    · exact .inl (.inl ⟨b, hb⟩)
    · rcases htok t m _ ht hk' with ⟨_, _, e1⟩ | ⟨_, h1, h2⟩
      · cases e1; exact .inr rfl
      · exact .inl (.inr (.inl ⟨t, m, cap', sz, h1, h2⟩))
    · exact .inl (.inr (.inr ho))

/-- a source of cells: nil, or known cells -/
theorem src_rel (s : SRel G h w) {z : Nat} {y : AV} {ys : List AV} {m : Nat} (hy : slCells h z y = some (ys, m)) (hl : ys.length = m * z) {v : Value} (hv : VRel G y v) :
    (v = .slice none 0 0 ∧ m = 0 ∧ ys = []) ∨ ∃ c o cap vs, v = .slice (some ⟨c, o, none⟩) m cap ∧ VRels G ys vs ∧ ∀ j u, vs[j]? = some u → w.cell? ⟨c, o + j, none⟩ = some u := by
  unfold slCells at hy
  split at hy
  · rename_i cs n r
    simp only [Option.some.injEq, Prod.mk.injEq] at hy
    obtain ⟨rfl, rfl⟩ := hy
    simp only [VRel] at hv
    rcases hv with ⟨_, rfl, rfl, rfl⟩ | ⟨c, o, cap, vs, rfl, h1, h2, h3, h4, h5⟩
    · exact .inl ⟨rfl, rfl, rfl⟩
    · exact .inr ⟨c, o, cap, vs, rfl, h4, fun j u hu => s.fr _ _ _ (h5 j u hu)⟩
  · rename_i b o n cap z0
    split at hy
    · rename_i old hold
      split at hy
      · rename_i hle
        simp only [Option.some.injEq, Prod.mk.injEq] at hy
        obtain ⟨rfl, rfl⟩ := hy
        simp only [VRel] at hv
        obtain ⟨c, hc, rfl, _⟩ := hv
        obtain ⟨cs, arr, e, h1, h2, h3⟩ := s.blk b c hc
        rw [hold] at h1; cases h1
        refine .inr ⟨c, o, cap, (arr.toList.drop o).take (n * z), rfl, (h3.drop o).take _, fun j u hu => ?_⟩
        rw [cell_of_row w c _ arr e (0, 0) h2]
        rw [List.getElem?_take] at hu
        split at hu
        · rw [List.getElem?_drop] at hu; simpa using hu
        · cases hu
      · cases hy
    · cases hy
  · cases hy
end
end Go.VM
