/- Layer 5: the law of a pair more: its contracts. -/
import Derived.Test.YtlomlnkafakloaaDoorSzA
import Derived.Test.YtlomlnkafakloaaDoorSyE
import Derived.Test.YtlomlnkafakloaaDoorSvE
import Derived.Test.YtlomlnkafakloaaDoorVm6
import Derived.KernelRfl
set_option linter.unusedSimpArgs false
set_option linter.unusedVariables false
set_option linter.unnecessarySimpa false
set_option maxHeartbeats 4000000
set_option maxRecDepth 100000
namespace Go.Proofs.Sur
open Go Go.VM

/-- what a call made may be written -/
theorem thaw_call {P : Program} {f : FuncId} {args cs : List AV} {n : Nat} (hc : CallOk P f args .nil (.sl cs n (.tok 0 1)) ⟨[], [n], []⟩) (hcs : AV.inds [] cs = true) :
    CallOk P f args .nil (.msl 0 0 n noCap 1) ⟨[cs], [], []⟩ := by
  intro G w vs s hgl hr
  refine (hc G w vs s hgl hr).mono ?_
  rintro e w' ⟨G1, u, rfl, st, s1, hv⟩
  obtain ⟨G2, s2, st2, rel⟩ := thaw_ok s rfl st s1 (k := 0) (n := n) (z := 1) (cs := cs) rfl rfl hv hcs (by intro x hx; cases hx)
  refine ⟨G2, u, rfl, st2, s2, ?_⟩
  have := rel _ _ (by simp [tOk]) hv
  simpa [thw] using this
theorem ok51 : FokM Tryd.prog none1 51 Tryd.f51 := ⟨mixed, by kernel_rfl, by kernel_rfl, by kernel_rfl, by kernel_rfl⟩
theorem r51 (a : Int) (b : Int) (c : Int) (d : Int) (hp : 0 ≤ a * d ∧ a * d ≤ 4000000 ∧ 0 ≤ c * b ∧ c * b ≤ a * d) : Body ⟨Tryd.prog, Sof (P := Tryd.prog) [], Pof (P := Tryd.prog) [], H.nil.base, 300⟩ none1 Tryd.f51 [.agg [I a, I b], .agg [I c, I d]] .nil (.bool false, .nil) := by
  obtain ⟨h1, h2, h3, h4⟩ := hp
  have ev0 : IntKind.i64.wrap (a * d) = a * d := wr _ (by omega) (by omega)
  have ev1 : IntKind.i64.wrap (c * b) = c * b := wr _ (by omega) (by omega)
  refine body_s ([Ans.o (Orc.val 9 (I (a * d)) H.nil), Ans.o (Orc.val 14 (I (c * b)) H.nil), Ans.o (Orc.b false)]) (aBin Tryd.prog BinOp.mul (3 : Nat) (I a) (I d) = some (I (a * d)) ∧ aBin Tryd.prog BinOp.mul (3 : Nat) (I c) (I b) = some (I (c * b)) ∧ c * b ≤ a * d ∧ (AV.bool false, H.mk [] [] []) = (AV.bool false, H.mk [] [] [])) (by kernel_rfl) ?_
  refine ⟨told_mul (by with_reducible assumption), ?_⟩
  refine ⟨told_mul (by with_reducible assumption), ?_⟩
  refine ⟨by first | with_reducible assumption | omega | assumption, ?_⟩
  first | with_reducible rfl | (refine bleaf_t ?_; omega) | (refine bleaf_f ?_; omega) | (refine ileaf ?_; omega) | rfl | (exfalso; omega)
noncomputable def c51 : PCtr Tryd.prog := sctr ok51 (X := Int × Int × Int × Int) (fun x => [.agg [I x.1, I x.2.1], .agg [I x.2.2.1, I x.2.2.2]]) (fun x => 0 ≤ x.1 * x.2.2.2 ∧ x.1 * x.2.2.2 ≤ 4000000 ∧ 0 ≤ x.2.2.1 * x.2.1 ∧ x.2.2.1 * x.2.1 ≤ x.1 * x.2.2.2) (fun x => .bool false) (by intro x y e _ _; simp at e; simp [e]) (fun x => by simp [AV.bnds, AV.bnd, AV.wk, rm_wk_bnd]) (fun x => by first | rfl | (simp [AV.bnd, rm_wk_bnd]; done)  | (simp [AV.bnd, AV.bnds, rm_wk_bnd]; done) | simp [AV.bnd, AV.bnds, Room.bnd, rm_wk_bnd]) (fun x hx => ⟨_, _, _, .nil, r51 (x.1) (x.2.1) (x.2.2.1) (x.2.2.2) hx⟩)
abbrev mr (g : List Int) : AV := .msl 0 0 g.length noCap 1
/-- a copy: the first one may be written -/
noncomputable def c19m (g M : List Int) (hg : Gr g) (hM : M.length = g.length) : Ctr Tryd.prog where
  f := 19
  X := Unit ⊕ Unit
  args x := match x with
    | .inl _ => [ls g .no]
    | .inr _ => [mr g]
  pre x h := match x with
    | .inl _ => h = .nil ∨ h.blk ≠ []
    | .inr _ => h.blk[0]? = some (ints M)
  res x h := match x with
    | .inl _ => (match h.blk with
      | [] => (mr g, ⟨[ints g], [], []⟩)
      | b :: bs => (ls g (.tok h.toks.length 1), ⟨b :: bs, h.toks ++ [g.length], h.maps⟩))
    | .inr _ => (ls M (.tok h.toks.length 1), ⟨h.blk, h.toks ++ [M.length], h.maps⟩)
  det := by
    rintro (_ | _) (_ | _) h e _ _
    · rfl
    · simp at e
    · simp at e
    · rfl
  ok := by
    rintro (_ | _) h hp
    · refine ⟨ok19t.call, ?_⟩
      have hne : g ≠ [] := fun e => by have := hg.1.1; rw [e] at this; simp at this
      have h6 := hg.1.2
      have hcut : cut g = g := List.take_of_length_le (by omega)
      have hc := (r19t g (by simp only [lim]; omega) hne).run ok19t (.eff _ rfl .nil) rfl
      simp only [hcut] at hc
      rcases hp with rfl | hb
      · exact thaw_call hc (inds_ints _ _)
      · have := frame_call (ts := [g.length]) (ms := []) hc (by simp [AV.bnds, AV.bnd, Room.bnd]) h
        have e : (AV.sl (ints g) g.length (.tok 0 1)).shift h.toks.length h.maps.length = .sl (ints g) g.length (.tok h.toks.length 1) := by
          have := AV.shifts_pure (dt := h.toks.length) (dm := h.maps.length) (ints g) (by simp)
          simp [AV.shift, Room.shift, this]
        rw [e] at this
        obtain ⟨bk, tk, mp⟩ := h
        cases bk with
        | nil => exact absurd rfl hb
        | cons b bs => simpa using this
    · refine ⟨ok19t.call, ?_⟩
      have h6 := hg.1.2
      have h1 := hg.1.1
      have hne : M ≠ [] := fun e => by rw [e] at hM; simp at hM; omega
      have hcut : cut M = M := List.take_of_length_le (by omega)
      have hc := (r19t M (by simp only [lim]; omega) hne).run ok19t (.eff _ rfl .nil) rfl
      simp only [hcut] at hc
      have hv : View h (mr g) (ls M .no) := by
        have := View.msl (h := h) 0 0 g.length noCap 1 (ints M) hp (by simp [hM])
        have e : ((ints M).drop 0).take (g.length * 1) = ints M := by rw [List.drop_zero, List.take_of_length_le (by simp [hM])]
        rw [e] at this
        have e2 : ls M .no = .sl (ints M) g.length .no := by rw [← hM]
        rw [e2]
        exact this
      exact hc.viewTok (enc_flats ints_c1 M) (.cons hv .nil)
/-- how many sets have all, of a list or of what may be written -/
noncomputable def c40x (g M : List Int) (hg : Gr g) (hGM : Gr M) (hM : M.length = g.length) : Ctr Tryd.prog where
  f := 40
  X := Unit ⊕ Room
  args x := match x with
    | .inl _ => [mr g]
    | .inr r => [ls g r]
  pre x h := match x with
    | .inl _ => h.blk[0]? = some (ints M)
    | .inr r => rok g r
  res x h := match x with
    | .inl _ => (.tup [I (cvA M : Nat), I 0], h)
    | .inr _ => (.tup [I (cvA g : Nat), I 0], h)
  det := by
    rintro (_ | _) (_ | _) h e _ _
    · rfl
    · simp at e
    · simp at e
    · rfl
  ok := by
    have h6 := hg.1.2
    rintro (_ | r) h hp
    · have hc := c40g.ok (M, .no) ⟨⟨by show M.length ≤ _; omega, fun _ => no_ne⟩, hGM⟩
      refine ⟨hc.1, ?_⟩
      have hc := hc.2 .nil
      have hv : View h (mr g) (ls M .no) := by
        have := View.msl (h := h) 0 0 g.length noCap 1 (ints M) hp (by simp [hM])
        have e : ((ints M).drop 0).take (g.length * 1) = ints M := by rw [List.drop_zero, List.take_of_length_le (by simp [hM])]
        rw [e] at this
        have e2 : ls M .no = .sl (ints M) g.length .no := by rw [← hM]
        rw [e2]
        exact this
      exact hc.view rfl (.cons hv .nil)
    · have hc := c40g.ok (g, r) ⟨⟨by show g.length ≤ _; omega, hp⟩, hg⟩
      exact ⟨hc.1, hc.2 h⟩
theorem c40x_reads (g M : List Int) (hg : Gr g) (hGM : Gr M) (hM : M.length = g.length) : (c40x g M hg hGM hM).Reads := ⟨fun x _ _ => by cases x <;> rfl, fun x h zs hp => by
  cases x with
  | inl _ =>
    refine ⟨?_, rfl⟩
    have hlt := (List.getElem?_eq_some_iff.1 hp).1
    show (h.blk ++ zs)[0]? = _
    rw [List.getElem?_append_left hlt]; exact hp
  | inr r => exact ⟨hp, rfl⟩⟩
end Go.Proofs.Sur

