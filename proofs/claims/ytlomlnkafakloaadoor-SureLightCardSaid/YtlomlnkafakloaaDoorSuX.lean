/- Layer 5: what the most words are: the greatest sets no two of which are near. -/
import Derived.Test.YtlomlnkafakloaaDoorSuH
import Derived.KernelRfl
set_option linter.unusedSimpArgs false
set_option linter.unusedVariables false
set_option linter.unnecessarySimpa false
set_option maxHeartbeats 4000000
set_option maxRecDepth 100000
namespace Go.Proofs.Sur
open Go Go.VM

structure Ind (w : List W) (s : W) (S : List Nat) : Prop where
  nd : S.Nodup
  ins : ∀ x, x ∈ S → s.getLsbD x = true
  far : ∀ x, x ∈ S → ∀ y, y ∈ S → x ≠ y → (wt_ w x).getLsbD y = false
theorem Ind.mono {w : List W} {s t : W} {S : List Nat} (h : Ind w s S) (k : ∀ x, x ∈ S → t.getLsbD x = true) : Ind w t S := ⟨h.nd, k, h.far⟩
theorem Ind.filter {w : List W} {s : W} {S : List Nat} (h : Ind w s S) (p : Nat → Bool) : Ind w s (S.filter p) :=
  ⟨h.nd.filter _, fun x hx => h.ins x (List.mem_filter.1 hx).1, fun x hx y hy e => h.far x (List.mem_filter.1 hx).1 y (List.mem_filter.1 hy).1 e⟩
theorem nodup_le1 {S : List Nat} (hn : S.Nodup) (h : ∀ x, x ∈ S → ∀ y, y ∈ S → x = y) : S.length ≤ 1 := by
  match S, hn, h with
  | [], _, _ => simp
  | [x], _, _ => simp
  | x :: y :: t, hn, h =>
    have := h x (by simp) y (by simp)
    subst this
    simp at hn
theorem filt_len (p : Nat → Bool) (S : List Nat) : S.length = (S.filter p).length + (S.filter fun x => !p x).length := by
  induction S with
  | nil => rfl
  | cons x S ih =>
    simp only [List.filter_cons, List.length_cons]
    cases p x <;> simp <;> omega
theorem andn_bitW {s a : W} {x : Nat} : (s &&& ~~~a).getLsbD x = true ↔ s.getLsbD x = true ∧ a.getLsbD x = false := by
  rw [BitVec.getLsbD_and, BitVec.getLsbD_not]
  constructor
  · intro h
    simp only [Bool.and_eq_true, Bool.not_eq_true', decide_eq_true_eq] at h
    exact ⟨h.1, h.2.2⟩
  · rintro ⟨h1, h2⟩
    rw [h1, h2]; simp [bit_lt h1]
theorem Ind.without {w : List W} {s a : W} {S : List Nat} (h : Ind w s S) : Ind w (s &&& ~~~a) (S.filter fun x => !a.getLsbD x) :=
  (h.filter _).mono fun x hx => by
    obtain ⟨h1, h2⟩ := List.mem_filter.1 hx
    exact andn_bitW.2 ⟨h.ins x h1, by simpa using h2⟩
theorem enB_iff {w : List W} {s : W} {i : Nat} : enB w s i = true ↔ ∀ x, (wt_ w i).getLsbD x = true → s.getLsbD x = true → ∀ y, (wt_ w i).getLsbD y = true → s.getLsbD y = true → (wt_ w x).getLsbD y = true := by
  simp only [enB, List.all_eq_true, mem_bits, beq_iff_eq]
  constructor
  · intro h x h1 h2 y h3 h4
    have := h x (by rw [BitVec.getLsbD_and, h1, h2]; rfl)
    cases hb : (wt_ w x).getLsbD y
    · have e : ((wt_ w i &&& s) &&& ~~~wt_ w x).getLsbD y = true := andn_bitW.2 ⟨by rw [BitVec.getLsbD_and, h3, h4]; rfl, hb⟩
      rw [this] at e; simp at e
    · rfl
  · intro h x hx
    rw [BitVec.getLsbD_and, Bool.and_eq_true] at hx
    refine Classical.byContradiction fun hc => ?_
    obtain ⟨y, _, hy⟩ := w_some hc
    obtain ⟨h1, h2⟩ := andn_bitW.1 hy
    rw [BitVec.getLsbD_and, Bool.and_eq_true] at h1
    have := h x hx.1 hx.2 y h1.1 h1.2
    rw [h2] at this; cases this
abbrev gsW (w : List W) : Prop := gdW w ∧ syW w
theorem ind_nil (w : List W) (s : W) : Ind w s [] := ⟨List.nodup_nil, fun _ h => by simp at h, fun _ h => by simp at h⟩
theorem ms_up {w : List W} (hw : rfx w) : ∀ (n : Nat) (s : W), (bits s).length < n → sub s w.length → ∀ S, Ind w s S → S.length ≤ msV w s
  | 0, _, h, _, _, _ => absurd h (Nat.not_lt_zero _)
  | n + 1, s, hn, hs, S, hS => by
    by_cases hz : s = 0#64
    · cases S with
      | nil => simp
      | cons x S =>
        have := hS.ins x (by simp)
        rw [hz] at this; simp at this
    · rw [msV_eq hw hs hz]
      have step : ∀ i, s.getLsbD i = true → (∀ x, x ∈ S → ∀ y, y ∈ S → (wt_ w i).getLsbD x = true → (wt_ w i).getLsbD y = true → x = y) → S.length ≤ 1 + msV w (s &&& ~~~wt_ w i) := by
        intro i hi hone
        have hlt := andn_lt hi (hw.2 i (hs i hi))
        have h1 := ms_up hw n _ (by omega) (sub_andn hs) _ (hS.without (a := wt_ w i))
        have h2 := filt_len (fun x => (wt_ w i).getLsbD x) S
        have h3 : (S.filter fun x => (wt_ w i).getLsbD x).length ≤ 1 := nodup_le1 (hS.nd.filter _) (fun x hx y hy => by
          obtain ⟨a1, a2⟩ := List.mem_filter.1 hx
          obtain ⟨b1, b2⟩ := List.mem_filter.1 hy
          exact hone x a1 y b1 a2 b2)
        omega
      cases hf : (bits s).find? (enB w s) with
      | some i =>
        have hi := mem_bits.1 (List.mem_of_find?_eq_some hf)
        have he := List.find?_some hf
        simp only
        refine step i hi (fun x hx y hy h1 h2 => Classical.byContradiction fun hne => ?_)
        have := enB_iff.1 he x h1 (hS.ins x hx) y h2 (hS.ins y hy)
        rw [hS.far x hx y hy hne] at this; cases this
      | none =>
        obtain ⟨t1, t2, _⟩ := tz_ok hz
        simp only
        by_cases ht : tz s ∈ S
        · have := step (tz s) t1 (fun x hx y hy h1 h2 => by
            have e1 : tz s = x := Classical.byContradiction fun hne => by rw [hS.far _ ht x hx hne] at h1; cases h1
            have e2 : tz s = y := Classical.byContradiction fun hne => by rw [hS.far _ ht y hy hne] at h2; cases h2
            rw [← e1, ← e2])
          omega
        · have hlt := andn_lt (a := 1#64 <<< tz s) t1 (by rw [one_bit t2]; simp)
          have := ms_up hw n (s &&& ~~~(1#64 <<< tz s)) (by omega) (sub_andn hs) S (hS.mono fun x hx => andn_bitW.2 ⟨hS.ins x hx, by
            rw [one_bit t2, decide_eq_false_iff_not]; rintro rfl; exact ht hx⟩)
          omega
theorem Ind.cons {w : List W} (hg : gsW w) {s : W} {S : List Nat} {i : Nat} (hs : sub s w.length) (hi : s.getLsbD i = true) (h : Ind w (s &&& ~~~wt_ w i) S) : Ind w s (i :: S) := by
  have hin : ∀ x, x ∈ S → s.getLsbD x = true ∧ (wt_ w i).getLsbD x = false := fun x hx => andn_bitW.1 (h.ins x hx)
  have hne : ∀ x, x ∈ S → i ≠ x := fun x hx e => by
    subst e
    have := (hin _ hx).2
    rw [hg.1.2.2.2 i (hs i hi)] at this; cases this
  refine ⟨List.nodup_cons.2 ⟨fun hx => hne i hx rfl, h.nd⟩, ?_, ?_⟩
  · intro x hx
    rcases List.mem_cons.1 hx with rfl | hx
    · exact hi
    · exact (hin x hx).1
  · intro x hx y hy e
    rcases List.mem_cons.1 hx with e1 | hx1
    · subst e1
      rcases List.mem_cons.1 hy with e2 | hy1
      · exact absurd e2.symm e
      · exact (hin y hy1).2
    · rcases List.mem_cons.1 hy with e2 | hy1
      · subst e2
        have a := hin x hx1
        rw [hg.2 x y (hs x a.1) (hs y hi)]; exact a.2
      · exact h.far x hx1 y hy1 e
theorem ms_ex {w : List W} (hg : gsW w) : ∀ (n : Nat) (s : W), (bits s).length < n → sub s w.length → ∃ S, Ind w s S ∧ S.length = msV w s
  | 0, _, h, _ => absurd h (Nat.not_lt_zero _)
  | n + 1, s, hn, hs => by
    have hw := hg.1.2.2
    by_cases hz : s = 0#64
    · subst hz; rw [msV_0]; exact ⟨[], ind_nil _ _, rfl⟩
    · rw [msV_eq hw hs hz]
      have step : ∀ i, s.getLsbD i = true → ∃ S, Ind w s S ∧ S.length = 1 + msV w (s &&& ~~~wt_ w i) := by
        intro i hi
        have hlt := andn_lt hi (hw.2 i (hs i hi))
        obtain ⟨S, h1, h2⟩ := ms_ex hg n _ (by omega) (sub_andn (a := wt_ w i) hs)
        exact ⟨i :: S, h1.cons hg hs hi, by rw [List.length_cons]; omega⟩
      cases hf : (bits s).find? (enB w s) with
      | some i => exact step i (mem_bits.1 (List.mem_of_find?_eq_some hf))
      | none =>
        obtain ⟨t1, t2, _⟩ := tz_ok hz
        simp only
        obtain ⟨S1, a1, a2⟩ := step (tz s) t1
        have hlt := andn_lt (a := 1#64 <<< tz s) t1 (by rw [one_bit t2]; simp)
        obtain ⟨S2, b1, b2⟩ := ms_ex hg n (s &&& ~~~(1#64 <<< tz s)) (by omega) (sub_andn hs)
        by_cases h : msV w (s &&& ~~~(1#64 <<< tz s)) ≤ 1 + msV w (s &&& ~~~wt_ w (tz s))
        · exact ⟨S1, a1, by omega⟩
        · exact ⟨S2, b1.mono (fun x hx => (andn_bitW.1 (b1.ins x hx)).1), by omega⟩
theorem ms_le {w : List W} (hw : rfx w) {s : W} (hs : sub s w.length) {S : List Nat} (h : Ind w s S) : S.length ≤ msV w s := ms_up hw 65 s (by have := bits_len s; omega) hs S h
theorem ms_get {w : List W} (hg : gsW w) {s : W} (hs : sub s w.length) : ∃ S, Ind w s S ∧ S.length = msV w s := ms_ex hg 65 s (by have := bits_len s; omega) hs
structure Lft (w : List W) (j : Nat) (s : W) (m : Nat) : Prop where
  sb : sub s w.length
  ms : msV w s = m
  ge : ∀ S, Ind w s S → S.length = m → ∀ x, x ∈ S → j ≤ x
theorem Lft.skip {w : List W} {j : Nat} {s : W} {m : Nat} (h : Lft w j s m) (hb : s.getLsbD j = false) : Lft w (j + 1) s m :=
  ⟨h.sb, h.ms, fun S hS hl x hx => by
    have h1 := h.ge S hS hl x hx
    have h2 := hS.ins x hx
    have : x ≠ j := fun e => by rw [e, hb] at h2; cases h2
    omega⟩
theorem Lft.take {w : List W} (hg : gsW w) {j : Nat} {s : W} {m : Nat} (h : Lft w j s m) (hb : s.getLsbD j = true) (he : 1 + msV w (s &&& ~~~wt_ w j) = m) : Lft w (j + 1) (s &&& ~~~wt_ w j) (m - 1) :=
  ⟨sub_andn h.sb, by omega, fun S hS hl x hx => by
    have h0 := hS.cons hg h.sb hb
    have h1 := h.ge _ h0 (by simp; omega) x (by simp [hx])
    have h2 := (andn_bitW.1 (hS.ins x hx)).2
    have : x ≠ j := fun e => by rw [e, hg.1.2.2.2 j (h.sb j hb)] at h2; cases h2
    omega⟩
theorem Lft.not {w : List W} (hg : gsW w) {j : Nat} {s : W} {m : Nat} (h : Lft w j s m) (hb : s.getLsbD j = true) (he : 1 + msV w (s &&& ~~~wt_ w j) ≠ m) : ∀ S, Ind w s S → S.length = m → ¬ j ∈ S := fun S hS hl hj => by
  have h1 := ms_le hg.1.2.2 (sub_andn (a := wt_ w j) h.sb) (hS.without (a := wt_ w j))
  have h2 := filt_len (fun x => (wt_ w j).getLsbD x) S
  have h3 : (S.filter fun x => (wt_ w j).getLsbD x).length ≤ 1 := nodup_le1 (hS.nd.filter _) (fun x hx y hy => by
    obtain ⟨a1, a2⟩ := List.mem_filter.1 hx
    obtain ⟨b1, b2⟩ := List.mem_filter.1 hy
    have e1 : j = x := Classical.byContradiction fun hne => by rw [hS.far _ hj x a1 hne] at a2; cases a2
    have e2 : j = y := Classical.byContradiction fun hne => by rw [hS.far _ hj y b1 hne] at b2; cases b2
    rw [← e1, ← e2])
  obtain ⟨T, t1, t2⟩ := ms_get hg (sub_andn (a := wt_ w j) h.sb)
  have h4 := ms_le hg.1.2.2 h.sb (t1.cons hg h.sb hb)
  have h5 := h.ms
  simp at h4
  simp only [wt_] at *
  omega
theorem Lft.pass {w : List W} (hg : gsW w) {j : Nat} {s : W} {m : Nat} (h : Lft w j s m) (hb : s.getLsbD j = true) (he : 1 + msV w (s &&& ~~~wt_ w j) ≠ m) : Lft w (j + 1) s m :=
  ⟨h.sb, h.ms, fun S hS hl x hx => by
    have h1 := h.ge S hS hl x hx
    have : x ≠ j := fun e => h.not hg hb he S hS hl (e ▸ hx)
    omega⟩
theorem Lft.first {w : List W} (hg : gsW w) : Lft w 0 (ful w.length) (msV w (ful w.length)) := ⟨ful_sub hg.1.1.2, rfl, fun _ _ _ x _ => Nat.zero_le x⟩
abbrev riseFar (w : List W) (x y : Int) : Prop := x < y ∧ (wt_ w x.toNat).getLsbD y.toNat = false
theorem frF_ok {w : List W} (hg : gsW w) : ∀ (n j : Nat) (s : W) (m : Nat), Lft w j s m → n + j = w.length →
    (frF w n j s m).length = m ∧ (∀ x, x ∈ frF w n j s m → (j : Int) ≤ x ∧ x < w.length ∧ s.getLsbD x.toNat = true) ∧ (frF w n j s m).Pairwise (riseFar w)
  | 0, j, s, m, h, hn => by
    obtain ⟨S, h1, h2⟩ := ms_get hg h.sb
    have : S = [] := by
      cases S with
      | nil => rfl
      | cons x S =>
        have a := h.ge _ h1 (h2.trans h.ms) x (by simp)
        have b := h.sb x (h1.ins x (by simp))
        omega
    subst this
    have hm := h.ms
    simp at h2
    exact ⟨by simp [frF]; omega, fun x hx => by simp [frF] at hx, List.Pairwise.nil⟩
  | n + 1, j, s, m, h, hn => by
    simp only [frF]
    cases hb : s.getLsbD j
    · rw [if_pos rfl]
      obtain ⟨i1, i2, i3⟩ := frF_ok hg n (j + 1) s m (h.skip hb) (by omega)
      exact ⟨i1, fun x hx => ⟨by have := (i2 x hx).1; omega, (i2 x hx).2⟩, i3⟩
    · rw [if_neg (by simp)]
      by_cases he : 1 + msV w (s &&& ~~~wt_ w j) = m
      · rw [if_pos he]
        obtain ⟨i1, i2, i3⟩ := frF_ok hg n (j + 1) _ _ (h.take hg hb he) (by omega)
        refine ⟨by rw [List.length_cons, i1]; omega, ?_, ?_⟩
        · intro x hx
          rcases List.mem_cons.1 hx with rfl | hx
          · exact ⟨by omega, by omega, by simpa using hb⟩
          · obtain ⟨a1, a2, a3⟩ := i2 x hx
            exact ⟨by omega, a2, (andn_bitW.1 a3).1⟩
        · refine List.pairwise_cons.2 ⟨fun x hx => ?_, i3⟩
          obtain ⟨a1, a2, a3⟩ := i2 x hx
          exact ⟨by omega, by rw [Int.toNat_natCast]; exact (andn_bitW.1 a3).2⟩
      · rw [if_neg he]
        obtain ⟨i1, i2, i3⟩ := frF_ok hg n (j + 1) s m (h.pass hg hb he) (by omega)
        exact ⟨i1, fun x hx => ⟨by have := (i2 x hx).1; omega, (i2 x hx).2⟩, i3⟩
theorem frV_ok {w : List W} (hg : gsW w) : (frV w).length = msV w (ful w.length) ∧ (∀ x, x ∈ frV w → 0 ≤ x ∧ x < w.length) ∧ (frV w).Pairwise (riseFar w) := by
  obtain ⟨h1, h2, h3⟩ := frF_ok hg w.length 0 _ _ (Lft.first hg) (by omega)
  exact ⟨h1, fun x hx => ⟨(h2 x hx).1, (h2 x hx).2.1⟩, h3⟩
abbrev isCd (w : List W) (l : List Int) : Prop := (∀ x, x ∈ l → 0 ≤ x ∧ x < w.length) ∧ l.Pairwise (riseFar w)
theorem pw_all {α : Type} {R : α → α → Prop} {l : List α} (h : l.Pairwise R) {x y : α} (hx : x ∈ l) (hy : y ∈ l) (hne : x ≠ y) : R x y ∨ R y x := by
  induction l with
  | nil => cases hx
  | cons z l ih =>
    rw [List.pairwise_cons] at h
    rcases List.mem_cons.1 hx with e1 | hx1
    · subst e1
      rcases List.mem_cons.1 hy with e2 | hy1
      · exact absurd e2.symm hne
      · exact .inl (h.1 y hy1)
    · rcases List.mem_cons.1 hy with e2 | hy1
      · subst e2; exact .inr (h.1 x hx1)
      · exact ih h.2 hx1 hy1
end Go.Proofs.Sur

