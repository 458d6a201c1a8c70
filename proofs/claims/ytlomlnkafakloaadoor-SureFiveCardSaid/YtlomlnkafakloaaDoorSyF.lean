/- Layer 5: the law of the cycle of five. -/
import Derived.Test.YtlomlnkafakloaaDoorSxN
import Derived.Test.YtlomlnkafakloaaDoorSuI
import Derived.Test.YtlomlnkafakloaaDoorSuJ0
import Derived.Test.YtlomlnkafakloaaDoorSvE
import Derived.Test.YtlomlnkafakloaaDoorSuQ0
import Derived.KernelRfl
set_option linter.unusedSimpArgs false
set_option linter.unusedVariables false
set_option linter.unnecessarySimpa false
set_option maxHeartbeats 4000000
set_option maxRecDepth 100000
namespace Go.Proofs.Sur
open Go Go.VM

/-- different numbers below n are at most n -/
theorem nodup_le : ∀ (n : Nat) (S : List Nat), S.Nodup → (∀ x, x ∈ S → x < n) → S.length ≤ n
  | 0, S, _, h => by
    cases S with
    | nil => exact Nat.le_refl _
    | cons a S => exact absurd (h a (by simp)) (Nat.not_lt_zero _)
  | n + 1, S, hn, h => by
    by_cases hm : n ∈ S
    · have := nodup_le n (S.erase n) (hn.erase n) (fun x hx => by
        have := (List.Nodup.mem_erase_iff hn).1 hx
        have := h x this.2; omega)
      rw [List.length_erase_of_mem hm] at this
      omega
    · have := nodup_le n S hn (fun x hx => by
        have h1 := h x hx
        have : x ≠ n := fun e => hm (e ▸ hx)
        omega)
      omega
/-! a list that is copied is new -/
noncomputable def c49t : Ctr Tryd.prog where
  f := 49
  X := List Int × Nat
  args x := [.sl (ints x.1) x.2 .no]
  pre x _ := x.1 ≠ [] ∧ x.1.length = x.2 ∧ x.2 ≤ 1000000000
  res x h := (.sl (ints x.1) x.2 (.tok h.toks.length 1), ⟨h.blk, h.toks ++ [x.2], h.maps⟩)
  det := by
    rintro ⟨l, n⟩ ⟨l', n'⟩ h e _ _
    simp at e
    obtain ⟨e1, e2⟩ := e
    subst e1 e2
    rfl
  ok := by
    rintro ⟨l, n⟩ h ⟨h1, h2, h3⟩
    refine ⟨ok49.call, ?_⟩
    simp only at h1 h2 h3
    have hc : CallOk Tryd.prog 49 [.sl (ints l) n .no] .nil (.sl (ints l) n (.tok 0 1)) ⟨[], [n], []⟩ := by
      cases l with
      | nil => exact absurd rfl h1
      | cons x l => exact (r49 x l n h2 h3).run ok49 .nil rfl
    have := frame_call (ts := [n]) (ms := []) hc (by simp [AV.bnds, AV.bnd, Room.bnd]) h
    have e : (AV.sl (ints l) n (.tok 0 1)).shift h.toks.length h.maps.length = .sl (ints l) n (.tok h.toks.length 1) := by
      have := AV.shifts_pure (dt := h.toks.length) (dm := h.maps.length) (ints l) (by simp)
      simp [AV.shift, Room.shift, this]
    rw [e] at this
    simpa using this
abbrev M49 : FuncId → Bool := (· == 49)
theorem ok19t : FokM Tryd.prog M49 19 Tryd.f19 := ⟨mixed, by kernel_rfl, by kernel_rfl, by kernel_rfl, by kernel_rfl⟩
theorem r19t (l : List Int) (hb : lim l.length) (hne : l ≠ []) : Body (En6 [c49t]) M49 Tryd.f19 [ls l .no] .nil (.sl (ints (cut l)) (cut l).length (.tok 0 1), ⟨[], [(cut l).length], []⟩) := by
  have hk : (l.take (pick2 false (l.length : Int) 80).toNat) = cut l ∧ (pick2 false (l.length : Int) 80).toNat = (cut l).length ∧ 0 ≤ pick2 false (l.length : Int) 80 ∧ pick2 false (l.length : Int) 80 ≤ 80 ∧ pick2 false (l.length : Int) 80 ≤ l.length := by
    simp only [pick2, Bool.false_eq_true, if_false, cut, List.length_take]
    by_cases h : (80 : Int) < l.length
    · rw [if_pos h]; refine ⟨rfl, by simp; omega, by omega, by omega, by omega⟩
    · rw [if_neg h]
      have : l.length ≤ 80 := by omega
      refine ⟨?_, by simp; omega, by omega, by omega, by omega⟩
      rw [List.take_of_length_le this, List.take_of_length_le (by simp)]
  have hc : cut l ≠ [] := fun e => by
    have h1 : (cut l).length = min 80 l.length := by simp [cut]
    rw [e] at h1
    have := List.length_pos_iff.2 hne
    simp at h1; omega
  have p49 : l.take (pick2 false (l.length : Int) 80).toNat ≠ [] ∧ (l.take (pick2 false (l.length : Int) 80).toNat).length = (pick2 false (l.length : Int) 80).toNat ∧ (pick2 false (l.length : Int) 80).toNat ≤ 1000000000 := ⟨by rw [hk.1]; exact hc, by rw [hk.1, hk.2.1], by omega⟩
  refine body_s ([Ans.o (Orc.val 7 (AV.sl (ints (List.take (pick2 false (↑l.length : Int) (80 : Int)).toNat l)) (pick2 false (↑l.length : Int) (80 : Int)).toNat Room.no) H.nil), Ans.o (Orc.val 8 (AV.sl (ints (List.take (pick2 false (↑l.length : Int) (80 : Int)).toNat l)) (pick2 false (↑l.length : Int) (80 : Int)).toNat (Room.tok 0 1)) (H.mk [] [(pick2 false (↑l.length : Int) (80 : Int)).toNat] []))]) (aSlice Tryd.prog (22 : Nat) (AV.sl (ints l) l.length Room.no) none (some (I (pick2 false (↑l.length : Int) (80 : Int)))) none (H.mk [] [] []) = some (AV.sl (ints (List.take (pick2 false (↑l.length : Int) (80 : Int)).toNat l)) (pick2 false (↑l.length : Int) (80 : Int)).toNat Room.no) ∧ aCall (Sof [c49t]) (AV.fn (Fn.func (49 : Nat)) [] []) [AV.sl (ints (List.take (pick2 false (↑l.length : Int) (80 : Int)).toNat l)) (pick2 false (↑l.length : Int) (80 : Int)).toNat Room.no] (H.mk [] [] []) = some (AV.sl (ints (List.take (pick2 false (↑l.length : Int) (80 : Int)).toNat l)) (pick2 false (↑l.length : Int) (80 : Int)).toNat (Room.tok 0 1), H.mk [] [(pick2 false (↑l.length : Int) (80 : Int)).toNat] []) ∧ leave (Base.mk H.nil.blk.length H.nil.toks.length H.nil.maps.length) (AV.sl (ints (List.take (pick2 false (↑l.length : Int) (80 : Int)).toNat l)) (pick2 false (↑l.length : Int) (80 : Int)).toNat (Room.tok 0 1)) (H.mk [] [(pick2 false (↑l.length : Int) (80 : Int)).toNat] []) = (AV.sl (ints (cut l)) (cut l).length (Room.tok 0 1), H.mk [] [(cut l).length] [])) (by kernel_rfl) ?_
  refine ⟨sl_ints (by kernel_rfl) hk.2.2.1 hk.2.2.2.2, ?_⟩
  refine ⟨acall_hit (c := c49t) (l.take (pick2 false (l.length : Int) 80).toNat, (pick2 false (l.length : Int) 80).toNat) _ rfl p49, ?_⟩
  (rw [hk.1, hk.2.1]; exact leave_ints (cut l) _)
/-- a written list, copied -/
noncomputable def c19n (l : List Int) (h5 : l.length = 5) : Ctr Tryd.prog where
  f := 19
  X := Unit
  args _ := [.msl 0 0 5 5 1]
  pre _ h := h.blk[0]? = some (ints l)
  res _ h := (ls l (.tok h.toks.length 1), ⟨h.blk, h.toks ++ [l.length], h.maps⟩)
  det := by rintro _ _ _ _ _ _; rfl
  ok := by
    intro _ h hb
    refine ⟨ok19t.call, ?_⟩
    have hne : l ≠ [] := fun e => by rw [e] at h5; cases h5
    have hcut : cut l = l := List.take_of_length_le (by omega)
    have hc := (r19t l (by simp only [lim]; omega) hne).run ok19t (.eff _ rfl .nil) rfl
    simp only [hcut] at hc
    have hv : View h (.msl 0 0 5 5 1) (ls l .no) := by
      have := View.msl (h := h) 0 0 5 5 1 (ints l) hb (by simp)
      have e : ((ints l).drop 0).take (5 * 1) = ints l := by rw [List.drop_zero, List.take_of_length_le (by simp [h5])]
      rw [e] at this
      have e2 : ls l .no = .sl (ints l) 5 .no := by rw [← h5]
      rw [e2]
      exact this
    exact hc.viewTok (enc_flats ints_c1 l) (.cons hv .nil)
/-- a written graph's least rank -/
noncomputable def c43n (l : List Int) (hF : Five l) : Ctr Tryd.prog where
  f := 43
  X := Unit
  args _ := [.msl 0 0 5 5 1]
  pre _ h := h.blk[0]? = some (ints l)
  res _ h := (.tup [I 3, I 0], h)
  det := by rintro _ _ _ _ _ _; rfl
  ok := by
    intro _ h hb
    have h5 := hF.len
    have hc := (c43g.ok (l, .no) ⟨⟨by show l.length ≤ _; omega, fun _ => no_ne⟩, hF.gr, by show l.length ≤ 5; omega⟩)
    refine ⟨hc.1, ?_⟩
    have hc := hc.2 .nil
    have hv : View h (.msl 0 0 5 5 1) (ls l .no) := by
      have := View.msl (h := h) 0 0 5 5 1 (ints l) hb (by simp)
      have e : ((ints l).drop 0).take (5 * 1) = ints l := by rw [List.drop_zero, List.take_of_length_le (by simp [h5])]
      rw [e] at this
      have e2 : ls l .no = .sl (ints l) 5 .no := by rw [← h5]
      rw [e2]
      exact this
    have q := hc.view rfl (.cons hv .nil)
    have e3 : c43g.v (l, .no) = .tup [I 3, I 0] := by
      show AV.tup [I (ftF l l.length [0] : Nat), I 0] = _
      rw [hF.fit]; rfl
    rw [e3] at q
    exact q
theorem c43n_reads (l : List Int) (hF : Five l) : (c43n l hF).Reads := ⟨fun _ _ _ => rfl, fun _ h zs hp => by
  refine ⟨?_, rfl⟩
  have hlt := (List.getElem?_eq_some_iff.1 hp).1
  show (h.blk ++ zs)[0]? = _
  rw [List.getElem?_append_left hlt]; exact hp⟩
noncomputable def c33f (l : List Int) (hF : Five l) : PCtr Tryd.prog where
  f := 33
  X := Room
  args r := [ls l r]
  pre r := rok l r
  v _ := .tup [.agg [I 5, I 2], I 0]
  det _ _ _ _ _ := rfl
  ok r hr := by
    have h5 := hF.len
    have hc := c33.ok (l, r) ⟨by show l.length ≤ _; omega, hr⟩
    have e : c33.v (l, r) = .tup [.agg [I 5, I 2], I 0] := by
      show AV.tup [.agg [I (wgN l), I (wgD l)], I (wgE l)] = _
      rw [hF.wN, hF.wD, (wg_ok hF.gr).1]
    rw [e] at hc
    exact hc
noncomputable def c40f (l : List Int) (hF : Five l) : PCtr Tryd.prog where
  f := 40
  X := Room
  args r := [ls l r]
  pre r := rok l r
  v _ := .tup [I 3, I 0]
  det _ _ _ _ _ := rfl
  ok r hr := by
    have h5 := hF.len
    have hc := c40g.ok (l, r) ⟨⟨by show l.length ≤ _; omega, hr⟩, hF.gr⟩
    have e : c40g.v (l, r) = .tup [I 3, I 0] := by
      show AV.tup [I (cvA l : Nat), I 0] = _
      rw [hF.cov]; rfl
    rw [e] at hc
    exact hc
/-! the orders -/
def mtF (o : List Int) : Nat → Nat
  | 0 => 0
  | j + 1 => mtF o j ||| 2 ^ (at_ o j).toNat
abbrev okO (o : List Int) (j : Nat) : Prop := 0 ≤ at_ o j ∧ at_ o j ≤ 4 ∧ (mtF o j).testBit (at_ o j).toNat = false
theorem mt_bit (o : List Int) : ∀ j k, (mtF o j).testBit k = true ↔ ∃ i, i < j ∧ (at_ o i).toNat = k
  | 0, k => by simp [mtF]
  | j + 1, k => by
    simp only [mtF, Nat.testBit_or, Bool.or_eq_true, mt_bit o j k, Nat.testBit_two_pow, decide_eq_true_eq]
    constructor
    · rintro (⟨i, h1, h2⟩ | h)
      · exact ⟨i, by omega, h2⟩
      · exact ⟨j, by omega, h⟩
    · rintro ⟨i, h1, h2⟩
      by_cases e : i = j
      · subst e; exact .inr h2
      · exact .inl ⟨i, by omega, h2⟩
theorem mt_lt {o : List Int} : ∀ j, (∀ i, i < j → okO o i) → mtF o j < 32
  | 0, _ => by simp [mtF]
  | j + 1, h => by
    have h1 := mt_lt j (fun i hi => h i (by omega))
    have h2 := h j (by omega)
    have : 2 ^ (at_ o j).toNat < 2 ^ 5 := Nat.pow_lt_pow_right (by decide) (by omega)
    exact Nat.or_lt_two_pow (n := 5) h1 this
theorem mt_all {o : List Int} (h : ∀ i, i < o.length → okO o i) (h31 : mtF o o.length = 31) : o.length = 5 ∧ o.Nodup ∧ ∀ i, i < 5 → 0 ≤ at_ o i ∧ at_ o i ≤ 4 := by
  have hne : ∀ i j, i < j → j < o.length → at_ o i ≠ at_ o j := fun i j hij hj e => by
    have h1 := (h j hj).2.2
    have h2 := (mt_bit o j (at_ o j).toNat).2 ⟨i, hij, by rw [e]⟩
    rw [h2] at h1; cases h1
  have hat : ∀ i (hi : i < o.length), o[i] = at_ o i := fun i hi => by simp [at_, List.getD_eq_getElem?_getD, List.getElem?_eq_getElem hi]
  have hnd : o.Nodup := by
    rw [List.Nodup, List.pairwise_iff_getElem]
    intro i j hi hj hij
    rw [hat i hi, hat j hj]; exact hne i j hij hj
  -- five values, each there
  have hex : ∀ k, k < 5 → ∃ i, i < o.length ∧ (at_ o i).toNat = k := fun k hk => by
    refine (mt_bit o o.length k).1 ?_
    rw [h31]
    have : k = 0 ∨ k = 1 ∨ k = 2 ∨ k = 3 ∨ k = 4 := by omega
    rcases this with rfl | rfl | rfl | rfl | rfl <;> decide
  have hle : o.length ≤ 5 := by
    have hm : ∀ x, x ∈ o.map Int.toNat → x ∈ List.range 5 := fun x hx => by
      obtain ⟨y, hy, rfl⟩ := List.mem_map.1 hx
      obtain ⟨i, hi, e⟩ := at_ix hy
      have := h i hi
      rw [List.mem_range]; omega
    have hnm : (o.map Int.toNat).Nodup := by
      rw [List.Nodup, List.pairwise_map]
      refine (List.Pairwise.and_mem.1 hnd).imp ?_
      rintro a b ⟨ha, hb, hne⟩ e
      obtain ⟨i, hi, e1⟩ := at_ix ha
      obtain ⟨j, hj, e2⟩ := at_ix hb
      have := h i hi
      have := h j hj
      omega
    have := nodup_le 5 _ hnm (fun x hx => List.mem_range.1 (hm x hx))
    rw [List.length_map] at this; exact this
  have hge : 5 ≤ o.length := by
    have hnd5 : (List.range 5).Nodup := List.nodup_range
    obtain ⟨f, hf⟩ : ∃ f : Nat → Nat, ∀ k, k < 5 → f k < o.length ∧ (at_ o (f k)).toNat = k := ⟨fun k => if hk : k < 5 then (hex k hk).choose else 0, fun k hk => by simp only [dif_pos hk]; exact (hex k hk).choose_spec⟩
    have hnm : ((List.range 5).map f).Nodup := by
      rw [List.Nodup, List.pairwise_map]
      refine (List.Pairwise.and_mem.1 hnd5).imp ?_
      rintro a b ⟨ha, hb, hne⟩ e
      have h1 := (hf a (List.mem_range.1 ha)).2
      have h2 := (hf b (List.mem_range.1 hb)).2
      rw [e] at h1; omega
    have := nodup_le o.length _ hnm (fun x hx => by
      obtain ⟨k, hk, rfl⟩ := List.mem_map.1 hx
      exact (hf k (List.mem_range.1 hk)).1)
    simpa using this
  exact ⟨by omega, hnd, fun i hi => by have := h i (by omega); omega⟩
end Go.Proofs.Sur

