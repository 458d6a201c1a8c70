/- Layer 2: scores, and which can be, by the reference. -/
import Derived.Test.YtnnhomkkggkkfaaDoorRkBm
import Derived.Test.YtnnhomkkggkkfaaDoorRkI
import Derived.Test.YtnnhomkkggkkfaaDoorRkBj
import Derived.KernelRfl
set_option linter.unusedSimpArgs false
set_option linter.unusedVariables false
set_option linter.unnecessarySimpa false
set_option maxHeartbeats 4000000
set_option maxRecDepth 100000
namespace Go.Proofs.Rnk
open Go Go.VM
open Go.Proofs.Sur (andn andn_bit andn_le i_wrap i_and i_or i_andn i_shl i_shr bit_01)

theorem leave_oV (l : List Int) (n : Nat) : leave ⟨0, 0, 0⟩ (oV l n) (hTk n) = (lO (ris l n), hO (ris l n)) := by
  have hl := ris_len l n
  cases n with
  | zero => rfl
  | succ m =>
    obtain ⟨x, L, hL⟩ : ∃ x L, ris l (m + 1) = x :: L := by
      cases hq : ris l (m + 1) with
      | nil => rw [hq] at hl; simp at hl
      | cons x L => exact ⟨x, L, rfl⟩
    have hLl : L.length = m := by rw [hL] at hl; simpa using hl
    have h1 : (ints (ris l (m + 1))).map (frz 0 0 (hTk (m + 1)) 5) = ints (ris l (m + 1)) := frz_ints 0 0 _ 3 _
    have hb : AV.bnds 0 0 0 (ints (ris l (m + 1))) = true := enc_bnds ints_c1 _ 0 0 0
    have ht : (tkL (m + 1))[m]? = some (m + 1) := by simp [tkL]
    have e2 : (lO (ris l (m + 1)), hO (ris l (m + 1))) = (AV.sl (ints (ris l (m + 1))) (m + 1) (.tok 0 1), H.mk [] [m + 1] []) := by
      rw [hL]; simp [lO, hO, rm, tk, hLl]
    rw [e2]
    have e3 : oV l (m + 1) = .sl (ints (ris l (m + 1))) (m + 1) (.tok m 1) := by simp [oV, rT]
    rw [e3]
    generalize ints (ris l (m + 1)) = c at h1 hb
    have e1 : frz 0 0 (hTk (m + 1)) 6 (.sl c (m + 1) (.tok m 1)) = .sl c (m + 1) .no := by
      simp only [frz, Nat.not_lt_zero, if_false, h1]
    have ht2 : ∀ h, (tkL (m + 1))[m]'h = m + 1 := fun h => by simp [tkL]
    simp [leave, e1, AV.bnd, hb, Room.bnd, retok, ht2]
theorem ok63 : FokM Tryd.prog none1 63 Tryd.f63 := ⟨mixed, by kernel_rfl, by kernel_rfl, by kernel_rfl, by kernel_rfl⟩
theorem r63 (l : List Int) (r : Room) (hr : rok l r) (hn : l.length < 1000) : Body (En6 []) none1 Tryd.f63 [ls l r] .nil (lO (ris l l.length), hO (ris l l.length)) := by
  have lp := lp63 l r hr hn
  refine body_s ([Ans.loop [(3 : Nat), (7 : Nat), (8 : Nat), (9 : Nat)] [Out.mk Unit (AX.exit (0 : Nat)) [(3 : Nat)] (fun x => True) (fun x => [oV l l.length]) (fun x => hTk l.length) fun y => []]]) (LoopS (Env.mk Tryd.prog (Sof (P := Tryd.prog) []) (Pof (P := Tryd.prog) []) H.nil.base (300 : Nat)) (loopAt Tryd.f63 (0 : Nat)) (41 : Nat) [(3 : Nat), (7 : Nat), (8 : Nat), (9 : Nat)] [AV.sl [] (0 : Nat) Room.nil, AV.sl (ints l) l.length r, I (↑l.length : Int), I 0] (H.mk [] [] []) [Out.mk Unit (AX.exit (0 : Nat)) [(3 : Nat)] (fun x => True) (fun x => [oV l l.length]) (fun x => hTk l.length) fun y => []] ∧ (∀ (y : Unit), True → ∀ (u : Nat → AV), leave (Base.mk H.nil.blk.length H.nil.toks.length H.nil.maps.length) (AV.sl (ints (ris l l.length)) l.length (rT l.length)) (H.mk [] (tkL l.length) []) = (AV.sl (ints (ris l l.length)) (ris l l.length).length (rm (0 : Nat) (ris l l.length)), H.mk [] (tk (ris l l.length)) [])) ∧ True) (by kernel_rfl) ?_
  refine ⟨lp, ?_⟩
  refine And.intro ?_ ?_
  · skip
    intro y
    intro w1
    intro u
    exact leave_oV _ _
  · skip
    trivial
abbrev rsd (l : List Int) : List Int := ris l l.length
/-- 'Rising' -/
noncomputable def c63 : PCtr Tryd.prog := slctr ok63 (X := List Int × Room) (fun x => [ls x.1 x.2]) (fun x => rok x.1 x.2 ∧ x.1.length < 1000) (fun x => .sl (ints (rsd x.1)) (rsd x.1).length (rm 0 (rsd x.1)).wk)
  (by rintro ⟨l, r⟩ ⟨m, s⟩ e _ _; simp at e; simp only [e.1]) (fun x => by simp [AV.bnds, AV.bnd, AV.wk, rm_wk_bnd]) (fun x => by simp [AV.bnd, rm_wk_bnd]) (fun x hx => ⟨_, _, _, lO (rsd x.1), tk (rsd x.1), .nil, r63 x.1 x.2.wk (by simpa using hx.1) hx.2, by simp [AV.plain, plains_ints], by simp only [AV.wkd, wkds_ints]⟩)
/-- the scores in the players' order -/
def scL (t : List Int) (k : Nat) : List Int := (List.range k).map fun i => ((pc (sn t i) : Nat) : Int)
@[simp] theorem scL_len (t : List Int) (k : Nat) : (scL t k).length = k := by simp [scL]
theorem scL_succ (t : List Int) (k : Nat) : scL t (k + 1) = scL t k ++ [((pc (sn t k) : Nat) : Int)] := by simp [scL, List.range_succ]
abbrev o23 (t : List Int) : List Out := [.mk Unit (.exit 0) [3] (fun _ => True) (fun _ => [lO (scL t t.length)]) (fun _ => hO (scL t t.length)) (fun _ => [])]
theorem simp23 : allSimpleM none1 (loopAt Tryd.f23 0) = true := by kernel_rfl
theorem lp23 (t : List Int) (r : Room) (h : Tn t) (hr : rok t r) :
    LoopS (En6 [c62.to, c63.to]) (loopAt Tryd.f23 0) 20 [3, 6, 7, 8] [.sl [] 0 .nil, ls t r, I t.length, I 0] .nil (o23 t) := by
  have hR : Rests (En6 [c62.to, c63.to]) none1 := rests mixed (.pure _ (.pure _ .nil))
  have h8 := h.s.2
  refine loop_s hR simp23 none (by intro _ h; cases h) (fun k vs H => H = hO (scL t k) ∧ vs = [lO (scL t k), ls t r, I t.length, I k]) t.length ⟨rfl, rfl⟩ (by intro _ h; cases h) ?_
  rintro k vs H hk ⟨rfl, rfl⟩
  by_cases hz : (k : Int) < t.length
  · have hz' : k < t.length := by omega
    have hri := rok_idx hr hz'
    have ev0 := wj1 (j := k) (by omega)
    have p62 : s8 (t.getD k i0) := h.s8 k
    have hl1 := scL_succ t k
    have hap := app_ints (P := Tryd.prog) (t := 22) (by kernel_rfl) (l := scL t k) (x := ((pc (t.getD k i0).toNat : Nat) : Int)) (by rw [scL_len]; omega)
    have e : scL t k ++ [((pc (t.getD k i0).toNat : Nat) : Int)] = scL t (k + 1) := hl1.symm
    rw [e] at hap
    refine ⟨[Ans.o (Orc.b true), Ans.o (Orc.val 10 (AV.cptr (ints (List.drop k t))) H.nil), Ans.o (Orc.val 11 (I (t.getD k i0)) H.nil), Ans.o (Orc.val 14 (I (↑(pc (t.getD k i0).toNat) : Int)) (H.mk [] (tk (scL t k)) [])), Ans.o (Orc.val 16 (AV.sl (ints (scL t (k + (1 : Nat)))) (scL t (k + (1 : Nat))).length (rm (0 : Nat) (scL t (k + (1 : Nat))))) (H.mk [] (tk (scL t (k + (1 : Nat)))) [])), Ans.o (Orc.val 17 (I (↑(k + (1 : Nat)) : Int)) H.nil)], fun u => of_eq ((↑k : Int) < (↑t.length : Int) ∧ aIndexAddr Tryd.prog (22 : Nat) (AV.sl (ints t) t.length r) (I (↑k : Int)) = some (AV.cptr (ints (List.drop k t))) ∧ aLoad Tryd.prog (3 : Nat) (ints (List.drop k t)) = some (I (t.getD k i0)) ∧ aCall (Sof [c62.to, c63.to]) (AV.fn (Fn.func (62 : Nat)) [] []) [I (t.getD k i0)] (H.mk [] (tk (scL t k)) []) = some (I (↑(pc (t.getD k i0).toNat) : Int), H.mk [] (tk (scL t k)) []) ∧ aAppend Tryd.prog (22 : Nat) (22 : Nat) (AV.sl (ints (scL t k)) (scL t k).length (rm (0 : Nat) (scL t k))) (AV.sl [I (↑(pc (t.getD k i0).toNat) : Int)] (1 : Nat) Room.full) (H.mk [] (tk (scL t k)) []) = some (AV.sl (ints (scL t (k + (1 : Nat)))) (scL t (k + (1 : Nat))).length (rm (0 : Nat) (scL t (k + (1 : Nat)))), H.mk [] (tk (scL t (k + (1 : Nat)))) []) ∧ aBin Tryd.prog BinOp.add (3 : Nat) (I (↑k : Int)) (I 1) = some (I (↑(k + (1 : Nat)) : Int)) ∧ (20 : Nat) = (20 : Nat) ∧ k < t.length ∧ Keep (H.mk [] (tk (scL t (k + (1 : Nat)))) [] = H.mk [] (tk (scL t (k + (1 : Nat)))) [] ∧ [AV.sl (ints (scL t (k + (1 : Nat)))) (scL t (k + (1 : Nat))).length (rm (0 : Nat) (scL t (k + (1 : Nat)))), AV.sl (ints t) t.length r, I (↑t.length : Int), I (↑(k + (1 : Nat)) : Int)] = [AV.sl (ints (scL t (k + (1 : Nat)))) (scL t (k + (1 : Nat))).length (rm (0 : Nat) (scL t (k + (1 : Nat)))), AV.sl (ints t) t.length r, I (↑t.length : Int), I (↑(k + (1 : Nat)) : Int)])) (by kernel_rfl) ?_⟩
    refine ⟨by first | with_reducible assumption | omega | assumption, ?_⟩
    refine ⟨ix_ints (by kernel_rfl) hz' hri, ?_⟩
    refine ⟨ld_ints (by kernel_rfl) (by kernel_rfl) hz', ?_⟩
    refine ⟨acall_hit (c := c62.to) (t.getD k i0) _ rfl p62, ?_⟩
    refine ⟨hap, ?_⟩
    refine ⟨told_add (by with_reducible assumption), ?_⟩
    refine ⟨by first | with_reducible assumption | omega | assumption, ?_⟩
    refine ⟨by first | with_reducible assumption | omega | assumption, ?_⟩
    exact ⟨rfl, rfl⟩
  · have hz : (t.length : Int) ≤ k := by omega
    have hk' : k = t.length := by omega
    subst hk'
    refine ⟨[Ans.o (Orc.b false)], fun u => of_eq ((↑t.length : Int) ≤ (↑t.length : Int) ∧ (20 : Nat) = (20 : Nat) ∧ hits [Out.mk Unit (AX.exit (0 : Nat)) [(3 : Nat)] (fun x => True) (fun x => [lO (scL t t.length)]) (fun x => hO (scL t t.length)) fun x => []] (AX.exit (0 : Nat)) [u (0 : Nat), u (1 : Nat), u (2 : Nat), AV.sl (ints (scL t t.length)) (scL t t.length).length (rm (0 : Nat) (scL t t.length)), u (4 : Nat), u (5 : Nat), AV.sl (ints t) t.length r, I (↑t.length : Int), I (↑t.length : Int), AV.bool false, u (10 : Nat), u (11 : Nat), u (12 : Nat), u (13 : Nat), u (14 : Nat), u (15 : Nat), u (16 : Nat), u (17 : Nat), u (18 : Nat), u (19 : Nat)] (H.mk [] (tk (scL t t.length)) [])) (by kernel_rfl) ?_⟩
    refine ⟨by first | with_reducible assumption | omega | assumption, ?_⟩
    refine ⟨by first | with_reducible assumption | omega | assumption, ?_⟩
    exact .inl ⟨(), trivial, rfl, rfl, rfl⟩
theorem ok23 : FokM Tryd.prog none1 23 Tryd.f23 := ⟨mixed, by kernel_rfl, by kernel_rfl, by kernel_rfl, by kernel_rfl⟩
theorem rm_rok (l : List Int) : rok l (rm 0 l) := fun hne => by
  cases l with
  | nil => exact absurd rfl hne
  | cons x l => simp [rm]
theorem leave_bt (bs : List (List AV)) (ts : List Nat) {v : AV} (hb : v.bnd 0 0 0 = true) : leave ⟨0, 0, 0⟩ v ⟨bs, ts, []⟩ = (v, .nil) := by
  simp [leave, hb, H.nil]
theorem r23 (t : List Int) (r : Room) (h : Tn t) (hr : rok t r) : Body (En6 [c62.to, c63.to]) none1 Tryd.f23 [ls t r] .nil (.sl (ints (rsd (scL t t.length))) (rsd (scL t t.length)).length (rm 0 (rsd (scL t t.length))).wk, .nil) := by
  have h8 := h.s.2
  have lp := lp23 t r h hr
  have p63 : rok (scL t t.length) (rm 0 (scL t t.length)) ∧ (scL t t.length).length < 1000 := ⟨rm_rok _, by rw [scL_len]; omega⟩
  refine body_s ([Ans.loop [(3 : Nat), (6 : Nat), (7 : Nat), (8 : Nat)] [Out.mk Unit (AX.exit (0 : Nat)) [(3 : Nat)] (fun x => True) (fun x => [lO (scL t t.length)]) (fun x => hO (scL t t.length)) fun y => [Ans.o (Orc.val 19 (AV.sl (ints (rsd (scL t t.length))) (rsd (scL t t.length)).length (rm (0 : Nat) (rsd (scL t t.length))).wk) (H.mk [] (tk (scL t t.length)) []))]]]) (LoopS (Env.mk Tryd.prog (Sof [c62.to, c63.to]) (Pof (P := Tryd.prog) []) H.nil.base (300 : Nat)) (loopAt Tryd.f23 (0 : Nat)) (20 : Nat) [(3 : Nat), (6 : Nat), (7 : Nat), (8 : Nat)] [AV.sl [] (0 : Nat) Room.nil, AV.sl (ints t) t.length r, I (↑t.length : Int), I 0] (H.mk [] [] []) [Out.mk Unit (AX.exit (0 : Nat)) [(3 : Nat)] (fun x => True) (fun x => [lO (scL t t.length)]) (fun x => hO (scL t t.length)) fun y => [Ans.o (Orc.val 19 (AV.sl (ints (rsd (scL t t.length))) (rsd (scL t t.length)).length (rm (0 : Nat) (rsd (scL t t.length))).wk) (H.mk [] (tk (scL t t.length)) []))]] ∧ (∀ (y : Unit), True → ∀ (u : Nat → AV), aCall (Sof [c62.to, c63.to]) (AV.fn (Fn.func (63 : Nat)) [] []) [AV.sl (ints (scL t t.length)) (scL t t.length).length (rm (0 : Nat) (scL t t.length))] (H.mk [] (tk (scL t t.length)) []) = some (AV.sl (ints (rsd (scL t t.length))) (rsd (scL t t.length)).length (rm (0 : Nat) (rsd (scL t t.length))).wk, H.mk [] (tk (scL t t.length)) []) ∧ leave (Base.mk H.nil.blk.length H.nil.toks.length H.nil.maps.length) (AV.sl (ints (rsd (scL t t.length))) (rsd (scL t t.length)).length (rm (0 : Nat) (rsd (scL t t.length))).wk) (H.mk [] (tk (scL t t.length)) []) = (AV.sl (ints (rsd (scL t t.length))) (rsd (scL t t.length)).length (rm (0 : Nat) (rsd (scL t t.length))).wk, H.mk [] [] [])) ∧ True) (by kernel_rfl) ?_
  refine ⟨lp, ?_⟩
  refine And.intro ?_ ?_
  · skip
    intro y
    intro w1
    intro u
    refine ⟨acall_hit (c := c63.to) (scL t t.length, rm 0 (scL t t.length)) _ rfl p63, ?_⟩
    exact leave_bt _ _ (by simp [AV.bnd, rm_wk_bnd])
  · skip
    trivial
/-- 'Scores' of the reference -/
noncomputable def c23 : PCtr Tryd.prog := sctr ok23 (X := List Int × Room) (fun x => [ls x.1 x.2]) (fun x => Tn x.1 ∧ rok x.1 x.2) (fun x => .sl (ints (rsd (scL x.1 x.1.length))) (rsd (scL x.1 x.1.length)).length (rm 0 (rsd (scL x.1 x.1.length))).wk)
  (by rintro ⟨l, r⟩ ⟨m, s⟩ e _ _; simp at e; simp only [e.1]) (fun x => by simp [AV.bnds, AV.bnd, AV.wk, rm_wk_bnd]) (fun x => by simp [AV.bnd, rm_wk_bnd]) (fun x hx => ⟨_, _, _, .pure _ (.pure _ .nil), r23 x.1 x.2.wk hx.1 (by simpa using hx.2)⟩)
theorem scs_scL (t : List Int) : scs t = scL t t.length := by
  have hl := sV_len t t.length
  apply List.ext_getElem
  · rw [hl]; simp
  · intro i h1 h2
    have hi : i < t.length := by rw [hl] at h1; exact h1
    have := sV_get t t.length i hi hi
    simp only [ia, List.getD_eq_getElem?_getD, List.getElem?_eq_getElem h1, Option.getD_some] at this
    rw [this]; simp [scL]
theorem srt_rsd {t : List Int} (h : 1 ≤ t.length) : srt t = rsd (scL t t.length) := by
  show isrt (scs t) = _
  rw [scs_scL, isrt_ris (by rw [scL_len]; exact h)]
/-! ### which scores can be -/
abbrev dv (s : List Int) (n i : Nat) : Int := s.getD i i0 - (if s.getD n i0 ≤ (i : Int) then 1 else 0)
def dec (s : List Int) (n k : Nat) : List Int := (List.range k).map fun i => dv s n i
@[simp] theorem dec_len (s : List Int) (n k : Nat) : (dec s n k).length = k := by simp [dec]
theorem dec_succ (s : List Int) (n k : Nat) : dec s n (k + 1) = dec s n k ++ [dv s n k] := by simp [dec, List.range_succ]
def posV : Nat → List Int → Bool
  | 0, _ => false
  | n + 1, s => if n = 0 then decide (s.getD 0 i0 = 0) else if (n : Int) < s.getD n i0 then false else (List.range n).all (fun i => decide (0 ≤ dv s n i)) && posV n (rsd (dec s n n))
abbrev b8 (x : Int) : Prop := 0 ≤ x ∧ x < 8
abbrev pos1 (s : List Int) (n i : Nat) : Prop := 0 ≤ dv s n i
structure PosA (s : List Int) (n : Nat) : Prop where
  h : ∀ i, i < n → pos1 s n i
abbrev Ok26 (n : Nat) : Prop := ∀ (s : List Int) (r : Room), 1 ≤ s.length → s.length = n → al b8 s → rok s r → CallOk Tryd.prog 26 [ls s r] .nil (.bool (posV n s)) .nil
theorem call26 : callable Tryd.prog 26 = true := by kernel_rfl
noncomputable def c26 (n : Nat) (h : Ok26 n) : PCtr Tryd.prog where
  f := 26
  X := List Int × Room
  args x := [ls x.1 x.2]
  pre x := (1 ≤ x.1.length ∧ x.1.length = n ∧ al b8 x.1) ∧ rok x.1 x.2
  v x := .bool (posV n x.1)
  det := by
    rintro ⟨l, r⟩ ⟨l', r'⟩ e _ _
    simp only [List.cons.injEq, AV.sl.injEq, and_true] at e
    rw [ints_inj e.1]
  ok := by
    rintro ⟨s, r⟩ ⟨⟨h0, h1, h2⟩, h3⟩
    refine ⟨call26, fun H => ?_⟩
    have k := h s r.wk h0 h1 h2 (by simpa using h3)
    have := pure_call k (by simp [AV.bnds, AV.bnd, rm_wk_bnd]) rfl H
    exact this.wk
noncomputable abbrev cs26 (n : Nat) (h : Ok26 n) : List (Ctr Tryd.prog) := [c63.to, (c26 n h).to]
theorem ct26 (n : Nat) (h : Ok26 n) : Ctrs Tryd.prog none1 (cs26 n h) := .pure _ (.pure _ .nil)
abbrev o26 (s : List Int) (r : Room) (n : Nat) : List Out := [.mk (List Nat) .ret [2] (fun _ => ¬ PosA s n) (fun _ => [.bool false]) (fun ts => ⟨[], ts, []⟩) (fun _ => []), .mk Unit (.exit 0) [4] (fun _ => PosA s n) (fun _ => [lO (dec s n n)]) (fun _ => hO (dec s n n)) (fun _ => [])]
theorem simp26 : allSimpleM none1 (loopAt Tryd.f26 0) = true := by kernel_rfl
theorem lp26 (n : Nat) (hok : Ok26 n) (s : List Int) (r : Room) (hs : s.length = n + 1) (hn : n < 1000) (ha : al b8 s) (hr : rok s r) :
    LoopS (En6 (cs26 n hok)) (loopAt Tryd.f26 0) 49 [0, 3, 4, 24, 25, 26] [ls s r, I n, .sl [] 0 .nil, .sl (ints (s.take n)) n .no, I n, I 0] .nil (o26 s r n) := by
  have hR : Rests (En6 (cs26 n hok)) none1 := rests mixed (ct26 n hok)
  refine loop_s hR simp26 none (by intro _ h; cases h) (fun k vs H => H = hO (dec s n k) ∧ vs = [ls s r, I n, lO (dec s n k), .sl (ints (s.take n)) n .no, I n, I k] ∧ ∀ i, i < k → pos1 s n i) n ⟨rfl, rfl, fun i hi => absurd hi (by omega)⟩ (by intro _ h; cases h) ?_
  rintro k vs H hk ⟨rfl, rfl, hp⟩
  have hns : n < s.length := by omega
  have hri := rok_idx hr hns
  by_cases hz : (k : Int) < n
  · have hz' : k < n := by omega
    have hzt : k < (s.take n).length := by rw [List.length_take]; omega
    have hg : (s.take n).getD k i0 = s.getD k i0 := by simp [List.getD_eq_getElem?_getD, List.getElem?_take, hz']
    have ev0 := wj1 (j := k) (by omega)
    have hb := ha k
    have hl1 := dec_succ s n k
    by_cases c : s.getD n i0 ≤ (k : Int)
    · have e1 : dv s n k = s.getD k i0 - 1 := by simp only [dv]; rw [if_pos c]
      have ev1 : IntKind.i64.wrap ((s.take n).getD k i0 - 1) = dv s n k := by rw [hg, e1]; exact wr _ (by simp only [b8] at hb; omega) (by simp only [b8] at hb; omega)
      by_cases c2 : dv s n k < 0
      · have hn' : ¬ PosA s n := fun q => by have := q.h k hz'; simp only [pos1] at this; omega
        refine ⟨[Ans.o (Orc.b true), Ans.o (Orc.val 29 (AV.cptr (ints (List.drop k (List.take n s)))) H.nil), Ans.o (Orc.val 30 (I ((List.take n s).getD k i0)) H.nil), Ans.o (Orc.val 34 (AV.cptr (ints (List.drop n s))) H.nil), Ans.o (Orc.val 35 (I (s.getD n i0)) H.nil), Ans.o (Orc.b true), Ans.o (Orc.val 38 (I (dv s n k)) H.nil), Ans.o (Orc.b true)], fun u => of_eq ((↑k : Int) < (↑n : Int) ∧ aIndexAddr Tryd.prog (22 : Nat) (AV.sl (ints (List.take n s)) n Room.no) (I (↑k : Int)) = some (AV.cptr (ints (List.drop k (List.take n s)))) ∧ aLoad Tryd.prog (3 : Nat) (ints (List.drop k (List.take n s))) = some (I ((List.take n s).getD k i0)) ∧ aIndexAddr Tryd.prog (22 : Nat) (AV.sl (ints s) s.length r) (I (↑n : Int)) = some (AV.cptr (ints (List.drop n s))) ∧ aLoad Tryd.prog (3 : Nat) (ints (List.drop n s)) = some (I (s.getD n i0)) ∧ s.getD n i0 ≤ (↑k : Int) ∧ aBin Tryd.prog BinOp.sub (3 : Nat) (I ((List.take n s).getD k i0)) (I 1) = some (I (dv s n k)) ∧ dv s n k < (0 : Int) ∧ (49 : Nat) = (49 : Nat) ∧ hits [Out.mk (List Nat) AX.ret [(2 : Nat)] (fun x => ¬PosA s n) (fun x => [AV.bool false]) (fun ts => H.mk [] ts []) fun x => [], Out.mk Unit (AX.exit (0 : Nat)) [(4 : Nat)] (fun x => PosA s n) (fun x => [lO (dec s n n)]) (fun x => hO (dec s n n)) fun x => []] AX.ret [AV.sl (ints s) s.length r, u (1 : Nat), AV.bool false, I (↑n : Int), AV.sl (ints (dec s n k)) (dec s n k).length (rm (0 : Nat) (dec s n k)), I (↑k : Int), I (dv s n k), u (7 : Nat), u (8 : Nat), u (9 : Nat), u (10 : Nat), u (11 : Nat), u (12 : Nat), u (13 : Nat), u (14 : Nat), u (15 : Nat), u (16 : Nat), u (17 : Nat), u (18 : Nat), u (19 : Nat), u (20 : Nat), u (21 : Nat), u (22 : Nat), u (23 : Nat), AV.sl (ints (List.take n s)) n Room.no, I (↑n : Int), I (↑k : Int), AV.bool true, I (↑k : Int), AV.cptr (ints (List.drop k (List.take n s))), I ((List.take n s).getD k i0), I (↑k : Int), AV.sl (ints s) s.length r, I (↑n : Int), AV.cptr (ints (List.drop n s)), I (s.getD n i0), AV.bool true, I ((List.take n s).getD k i0), I (dv s n k), I (dv s n k), AV.bool true, u (41 : Nat), u (42 : Nat), u (43 : Nat), u (44 : Nat), u (45 : Nat), u (46 : Nat), u (47 : Nat), u (48 : Nat)] (H.mk [] (tk (dec s n k)) [])) (by kernel_rfl) ?_⟩
        refine ⟨by first | with_reducible assumption | omega | assumption, ?_⟩
        refine ⟨by first | exact ix_ints (by kernel_rfl) hz' no_ne | exact ix_ints (by kernel_rfl) hns hri, ?_⟩
        refine ⟨by first | exact ld_ints (by kernel_rfl) (by kernel_rfl) hzt | exact ld_ints (by kernel_rfl) (by kernel_rfl) hns, ?_⟩
        refine ⟨by first | exact ix_ints (by kernel_rfl) hz' no_ne | exact ix_ints (by kernel_rfl) hns hri, ?_⟩
        refine ⟨by first | exact ld_ints (by kernel_rfl) (by kernel_rfl) hzt | exact ld_ints (by kernel_rfl) (by kernel_rfl) hns, ?_⟩
        refine ⟨by first | with_reducible assumption | omega | assumption, ?_⟩
        refine ⟨told_sub (by with_reducible assumption), ?_⟩
        refine ⟨by first | with_reducible assumption | omega | assumption, ?_⟩
        refine ⟨by first | with_reducible assumption | omega | assumption, ?_⟩
        exact .inl ⟨_, hn', rfl, rfl, rfl⟩
      · have c2 : 0 ≤ dv s n k := by omega
        have hap := app_ints (P := Tryd.prog) (t := 22) (by kernel_rfl) (l := dec s n k) (x := dv s n k) (by rw [dec_len]; omega)
        rw [← hl1] at hap
        have hk2 := all_succ (q := pos1 s n) hp c2
        refine ⟨[Ans.o (Orc.b true), Ans.o (Orc.val 29 (AV.cptr (ints (List.drop k (List.take n s)))) H.nil), Ans.o (Orc.val 30 (I ((List.take n s).getD k i0)) H.nil), Ans.o (Orc.val 34 (AV.cptr (ints (List.drop n s))) H.nil), Ans.o (Orc.val 35 (I (s.getD n i0)) H.nil), Ans.o (Orc.b true), Ans.o (Orc.val 38 (I (dv s n k)) H.nil), Ans.o (Orc.b false), Ans.o (Orc.val 44 (AV.sl (ints (dec s n (k + (1 : Nat)))) (dec s n (k + (1 : Nat))).length (rm (0 : Nat) (dec s n (k + (1 : Nat))))) (H.mk [] (tk (dec s n (k + (1 : Nat)))) [])), Ans.o (Orc.val 45 (I (↑(k + (1 : Nat)) : Int)) H.nil)], fun u => of_eq ((↑k : Int) < (↑n : Int) ∧ aIndexAddr Tryd.prog (22 : Nat) (AV.sl (ints (List.take n s)) n Room.no) (I (↑k : Int)) = some (AV.cptr (ints (List.drop k (List.take n s)))) ∧ aLoad Tryd.prog (3 : Nat) (ints (List.drop k (List.take n s))) = some (I ((List.take n s).getD k i0)) ∧ aIndexAddr Tryd.prog (22 : Nat) (AV.sl (ints s) s.length r) (I (↑n : Int)) = some (AV.cptr (ints (List.drop n s))) ∧ aLoad Tryd.prog (3 : Nat) (ints (List.drop n s)) = some (I (s.getD n i0)) ∧ s.getD n i0 ≤ (↑k : Int) ∧ aBin Tryd.prog BinOp.sub (3 : Nat) (I ((List.take n s).getD k i0)) (I 1) = some (I (dv s n k)) ∧ (0 : Int) ≤ dv s n k ∧ aAppend Tryd.prog (22 : Nat) (22 : Nat) (AV.sl (ints (dec s n k)) (dec s n k).length (rm (0 : Nat) (dec s n k))) (AV.sl [I (dv s n k)] (1 : Nat) Room.full) (H.mk [] (tk (dec s n k)) []) = some (AV.sl (ints (dec s n (k + (1 : Nat)))) (dec s n (k + (1 : Nat))).length (rm (0 : Nat) (dec s n (k + (1 : Nat)))), H.mk [] (tk (dec s n (k + (1 : Nat)))) []) ∧ aBin Tryd.prog BinOp.add (3 : Nat) (I (↑k : Int)) (I 1) = some (I (↑(k + (1 : Nat)) : Int)) ∧ (49 : Nat) = (49 : Nat) ∧ k < n ∧ Keep (H.mk [] (tk (dec s n (k + (1 : Nat)))) [] = H.mk [] (tk (dec s n (k + (1 : Nat)))) [] ∧ [AV.sl (ints s) s.length r, I (↑n : Int), AV.sl (ints (dec s n (k + (1 : Nat)))) (dec s n (k + (1 : Nat))).length (rm (0 : Nat) (dec s n (k + (1 : Nat)))), AV.sl (ints (List.take n s)) n Room.no, I (↑n : Int), I (↑(k + (1 : Nat)) : Int)] = [AV.sl (ints s) s.length r, I (↑n : Int), AV.sl (ints (dec s n (k + (1 : Nat)))) (dec s n (k + (1 : Nat))).length (rm (0 : Nat) (dec s n (k + (1 : Nat)))), AV.sl (ints (List.take n s)) n Room.no, I (↑n : Int), I (↑(k + (1 : Nat)) : Int)] ∧ ∀ (i : Nat), i < k + (1 : Nat) → pos1 s n i)) (by kernel_rfl) ?_⟩
        refine ⟨by first | with_reducible assumption | omega | assumption, ?_⟩
        refine ⟨by first | exact ix_ints (by kernel_rfl) hz' no_ne | exact ix_ints (by kernel_rfl) hns hri, ?_⟩
        refine ⟨by first | exact ld_ints (by kernel_rfl) (by kernel_rfl) hzt | exact ld_ints (by kernel_rfl) (by kernel_rfl) hns, ?_⟩
        refine ⟨by first | exact ix_ints (by kernel_rfl) hz' no_ne | exact ix_ints (by kernel_rfl) hns hri, ?_⟩
        refine ⟨by first | exact ld_ints (by kernel_rfl) (by kernel_rfl) hzt | exact ld_ints (by kernel_rfl) (by kernel_rfl) hns, ?_⟩
        refine ⟨by first | with_reducible assumption | omega | assumption, ?_⟩
        refine ⟨told_sub (by with_reducible assumption), ?_⟩
        refine ⟨by first | with_reducible assumption | omega | assumption, ?_⟩
        refine ⟨hap, ?_⟩
        refine ⟨told_add (by with_reducible assumption), ?_⟩
        refine ⟨by first | with_reducible assumption | omega | assumption, ?_⟩
        refine ⟨by first | with_reducible assumption | omega | assumption, ?_⟩
        exact ⟨rfl, rfl, hk2⟩
    · have e1 : dv s n k = (s.take n).getD k i0 := by simp only [dv]; rw [if_neg c, hg]; omega
      have c : (k : Int) < s.getD n i0 := by omega
      have c2 : 0 ≤ (s.take n).getD k i0 := by rw [hg]; exact hb.1
      have hap := app_ints (P := Tryd.prog) (t := 22) (by kernel_rfl) (l := dec s n k) (x := (s.take n).getD k i0) (by rw [dec_len]; omega)
      rw [← e1, ← hl1, e1] at hap
      have hk2 := all_succ (q := pos1 s n) hp (show 0 ≤ dv s n k by rw [e1]; exact c2)
      refine ⟨[Ans.o (Orc.b true), Ans.o (Orc.val 29 (AV.cptr (ints (List.drop k (List.take n s)))) H.nil), Ans.o (Orc.val 30 (I ((List.take n s).getD k i0)) H.nil), Ans.o (Orc.val 34 (AV.cptr (ints (List.drop n s))) H.nil), Ans.o (Orc.val 35 (I (s.getD n i0)) H.nil), Ans.o (Orc.b false), Ans.o (Orc.b false), Ans.o (Orc.val 44 (AV.sl (ints (dec s n (k + (1 : Nat)))) (dec s n (k + (1 : Nat))).length (rm (0 : Nat) (dec s n (k + (1 : Nat))))) (H.mk [] (tk (dec s n (k + (1 : Nat)))) [])), Ans.o (Orc.val 45 (I (↑(k + (1 : Nat)) : Int)) H.nil)], fun u => of_eq ((↑k : Int) < (↑n : Int) ∧ aIndexAddr Tryd.prog (22 : Nat) (AV.sl (ints (List.take n s)) n Room.no) (I (↑k : Int)) = some (AV.cptr (ints (List.drop k (List.take n s)))) ∧ aLoad Tryd.prog (3 : Nat) (ints (List.drop k (List.take n s))) = some (I ((List.take n s).getD k i0)) ∧ aIndexAddr Tryd.prog (22 : Nat) (AV.sl (ints s) s.length r) (I (↑n : Int)) = some (AV.cptr (ints (List.drop n s))) ∧ aLoad Tryd.prog (3 : Nat) (ints (List.drop n s)) = some (I (s.getD n i0)) ∧ (↑k : Int) < s.getD n i0 ∧ (0 : Int) ≤ (List.take n s).getD k i0 ∧ aAppend Tryd.prog (22 : Nat) (22 : Nat) (AV.sl (ints (dec s n k)) (dec s n k).length (rm (0 : Nat) (dec s n k))) (AV.sl [I ((List.take n s).getD k i0)] (1 : Nat) Room.full) (H.mk [] (tk (dec s n k)) []) = some (AV.sl (ints (dec s n (k + (1 : Nat)))) (dec s n (k + (1 : Nat))).length (rm (0 : Nat) (dec s n (k + (1 : Nat)))), H.mk [] (tk (dec s n (k + (1 : Nat)))) []) ∧ aBin Tryd.prog BinOp.add (3 : Nat) (I (↑k : Int)) (I 1) = some (I (↑(k + (1 : Nat)) : Int)) ∧ (49 : Nat) = (49 : Nat) ∧ k < n ∧ Keep (H.mk [] (tk (dec s n (k + (1 : Nat)))) [] = H.mk [] (tk (dec s n (k + (1 : Nat)))) [] ∧ [AV.sl (ints s) s.length r, I (↑n : Int), AV.sl (ints (dec s n (k + (1 : Nat)))) (dec s n (k + (1 : Nat))).length (rm (0 : Nat) (dec s n (k + (1 : Nat)))), AV.sl (ints (List.take n s)) n Room.no, I (↑n : Int), I (↑(k + (1 : Nat)) : Int)] = [AV.sl (ints s) s.length r, I (↑n : Int), AV.sl (ints (dec s n (k + (1 : Nat)))) (dec s n (k + (1 : Nat))).length (rm (0 : Nat) (dec s n (k + (1 : Nat)))), AV.sl (ints (List.take n s)) n Room.no, I (↑n : Int), I (↑(k + (1 : Nat)) : Int)] ∧ ∀ (i : Nat), i < k + (1 : Nat) → pos1 s n i)) (by kernel_rfl) ?_⟩
      refine ⟨by first | with_reducible assumption | omega | assumption, ?_⟩
      refine ⟨by first | exact ix_ints (by kernel_rfl) hz' no_ne | exact ix_ints (by kernel_rfl) hns hri, ?_⟩
      refine ⟨by first | exact ld_ints (by kernel_rfl) (by kernel_rfl) hzt | exact ld_ints (by kernel_rfl) (by kernel_rfl) hns, ?_⟩
      refine ⟨by first | exact ix_ints (by kernel_rfl) hz' no_ne | exact ix_ints (by kernel_rfl) hns hri, ?_⟩
      refine ⟨by first | exact ld_ints (by kernel_rfl) (by kernel_rfl) hzt | exact ld_ints (by kernel_rfl) (by kernel_rfl) hns, ?_⟩
      refine ⟨by first | with_reducible assumption | omega | assumption, ?_⟩
      refine ⟨by first | with_reducible assumption | omega | assumption, ?_⟩
      refine ⟨hap, ?_⟩
      refine ⟨told_add (by with_reducible assumption), ?_⟩
      refine ⟨by first | with_reducible assumption | omega | assumption, ?_⟩
      refine ⟨by first | with_reducible assumption | omega | assumption, ?_⟩
      exact ⟨rfl, rfl, hk2⟩
  · have hz : (n : Int) ≤ k := by omega
    have hk' : k = n := by omega
    subst hk'
    refine ⟨[Ans.o (Orc.b false)], fun u => of_eq ((↑k : Int) ≤ (↑k : Int) ∧ (49 : Nat) = (49 : Nat) ∧ hits [Out.mk (List Nat) AX.ret [(2 : Nat)] (fun x => ¬PosA s k) (fun x => [AV.bool false]) (fun ts => H.mk [] ts []) fun x => [], Out.mk Unit (AX.exit (0 : Nat)) [(4 : Nat)] (fun x => PosA s k) (fun x => [lO (dec s k k)]) (fun x => hO (dec s k k)) fun x => []] (AX.exit (0 : Nat)) [AV.sl (ints s) s.length r, u (1 : Nat), u (2 : Nat), I (↑k : Int), AV.sl (ints (dec s k k)) (dec s k k).length (rm (0 : Nat) (dec s k k)), u (5 : Nat), u (6 : Nat), u (7 : Nat), u (8 : Nat), u (9 : Nat), u (10 : Nat), u (11 : Nat), u (12 : Nat), u (13 : Nat), u (14 : Nat), u (15 : Nat), u (16 : Nat), u (17 : Nat), u (18 : Nat), u (19 : Nat), u (20 : Nat), u (21 : Nat), u (22 : Nat), u (23 : Nat), AV.sl (ints (List.take k s)) k Room.no, I (↑k : Int), I (↑k : Int), AV.bool false, u (28 : Nat), u (29 : Nat), u (30 : Nat), u (31 : Nat), u (32 : Nat), u (33 : Nat), u (34 : Nat), u (35 : Nat), u (36 : Nat), u (37 : Nat), u (38 : Nat), u (39 : Nat), u (40 : Nat), u (41 : Nat), u (42 : Nat), u (43 : Nat), u (44 : Nat), u (45 : Nat), u (46 : Nat), u (47 : Nat), u (48 : Nat)] (H.mk [] (tk (dec s k k)) [])) (by kernel_rfl) ?_⟩
    refine ⟨by first | with_reducible assumption | omega | assumption, ?_⟩
    refine ⟨by first | with_reducible assumption | omega | assumption, ?_⟩
    exact .inr (.inl ⟨(), ⟨hp⟩, rfl, rfl, rfl⟩)
theorem al_mem {p : Int → Prop} (h0 : p 0) {l : List Int} : al p l ↔ ∀ z ∈ l, p z := by
  constructor
  · intro h z hz
    obtain ⟨i, hi, e⟩ := List.getElem_of_mem hz
    have := h i
    rw [List.getD_eq_getElem?_getD, List.getElem?_eq_getElem hi] at this
    rw [← e]; exact this
  · intro h i
    rw [List.getD_eq_getElem?_getD]
    cases hq : l[i]? with
    | none => exact h0
    | some z => exact h z (List.mem_of_getElem? hq)
theorem al_ris {p : Int → Prop} (h0 : p 0) {l : List Int} (h : al p l) : ∀ k, al p (ris l k)
  | 0 => by intro i; simpa [ris, List.getD_eq_getElem?_getD] using h0
  | k + 1 => by
    have ih := al_ris h0 h k
    rw [al_mem h0] at ih ⊢
    intro z hz
    rw [ris] at hz
    rcases mem_insI.1 hz with e | e
    · rw [e]; exact h k
    · exact ih z e
theorem dec_b {s : List Int} {n : Nat} (ha : al b8 s) (hp : PosA s n) : al b8 (dec s n n) := by
  rw [al_mem (by simp only [b8]; omega)]
  intro z hz
  simp only [dec, List.mem_map, List.mem_range] at hz
  obtain ⟨i, hi, rfl⟩ := hz
  have h1 := hp.h i hi
  have h2 := ha i
  simp only [pos1, dv] at h1 ⊢
  simp only [b8] at h2 ⊢
  refine ⟨h1, ?_⟩
  split <;> omega
theorem posA_iff {s : List Int} {n : Nat} : (List.range n).all (fun i => decide (0 ≤ dv s n i)) = true ↔ PosA s n := by
  simp only [List.all_eq_true, List.mem_range, decide_eq_true_eq]
  exact ⟨fun h => ⟨h⟩, fun h => h.h⟩
theorem ok26 : FokM Tryd.prog none1 26 Tryd.f26 := ⟨mixed, by kernel_rfl, by kernel_rfl, by kernel_rfl, by kernel_rfl⟩
theorem r26 (n : Nat) (hok : Ok26 n) (s : List Int) (r : Room) (hs : s.length = n + 1) (hn : n < 1000) (ha : al b8 s) (hr : rok s r) : Body (En6 (cs26 n hok)) none1 Tryd.f26 [ls s r] .nil (.bool (posV (n + 1) s), .nil) := by
  have ev0 : IntKind.i64.wrap ((s.length : Int) - 1) = (n : Int) := by rw [wr _ (by omega) (by omega)]; omega
  have hns : n < s.length := by omega
  have h0s : 0 < s.length := by omega
  have hri := rok_idx hr hns
  by_cases c0 : n = 0
  · have c0' : (n : Int) = 0 := by omega
    by_cases c1 : s.getD 0 i0 = 0
    · have e : posV (n + 1) s = true := by rw [posV, if_pos c0]; simpa using c1
      rw [e]
      refine body_s ([Ans.o (Orc.val 9 (I (↑n : Int)) H.nil), Ans.o (Orc.b true), Ans.o (Orc.val 13 (AV.cptr (ints (List.drop (0 : Nat) s))) H.nil), Ans.o (Orc.val 14 (I (s.getD (0 : Nat) i0)) H.nil), Ans.o (Orc.b true)]) (aBin Tryd.prog BinOp.sub (3 : Nat) (I (↑s.length : Int)) (I 1) = some (I (↑n : Int)) ∧ (↑n : Int) = (0 : Int) ∧ aIndexAddr Tryd.prog (22 : Nat) (AV.sl (ints s) s.length r) (I 0) = some (AV.cptr (ints (List.drop (0 : Nat) s))) ∧ aLoad Tryd.prog (3 : Nat) (ints (List.drop (0 : Nat) s)) = some (I (s.getD (0 : Nat) i0)) ∧ s.getD (0 : Nat) i0 = (0 : Int) ∧ (AV.bool true, H.mk [] [] []) = (AV.bool true, H.mk [] [] [])) (by kernel_rfl) ?_
      refine ⟨told_sub (by with_reducible assumption), ?_⟩
      refine ⟨by first | with_reducible assumption | omega | assumption, ?_⟩
      refine ⟨ix_ints (by kernel_rfl) h0s hri, ?_⟩
      refine ⟨ld_ints (by kernel_rfl) (by kernel_rfl) h0s, ?_⟩
      refine ⟨by first | with_reducible assumption | omega | assumption, ?_⟩
      first | with_reducible rfl | (refine bleaf_t ?_; omega) | (refine bleaf_f ?_; omega) | (refine ileaf ?_; omega) | rfl | (exfalso; omega)
    · have e : posV (n + 1) s = false := by rw [posV, if_pos c0]; simpa using c1
      have c1 : s.getD 0 i0 ≠ 0 := c1
      rw [e]
      refine body_s ([Ans.o (Orc.val 9 (I (↑n : Int)) H.nil), Ans.o (Orc.b true), Ans.o (Orc.val 13 (AV.cptr (ints (List.drop (0 : Nat) s))) H.nil), Ans.o (Orc.val 14 (I (s.getD (0 : Nat) i0)) H.nil), Ans.o (Orc.b false)]) (aBin Tryd.prog BinOp.sub (3 : Nat) (I (↑s.length : Int)) (I 1) = some (I (↑n : Int)) ∧ (↑n : Int) = (0 : Int) ∧ aIndexAddr Tryd.prog (22 : Nat) (AV.sl (ints s) s.length r) (I 0) = some (AV.cptr (ints (List.drop (0 : Nat) s))) ∧ aLoad Tryd.prog (3 : Nat) (ints (List.drop (0 : Nat) s)) = some (I (s.getD (0 : Nat) i0)) ∧ s.getD (0 : Nat) i0 ≠ (0 : Int) ∧ (AV.bool false, H.mk [] [] []) = (AV.bool false, H.mk [] [] [])) (by kernel_rfl) ?_
      refine ⟨told_sub (by with_reducible assumption), ?_⟩
      refine ⟨by first | with_reducible assumption | omega | assumption, ?_⟩
      refine ⟨ix_ints (by kernel_rfl) h0s hri, ?_⟩
      refine ⟨ld_ints (by kernel_rfl) (by kernel_rfl) h0s, ?_⟩
      refine ⟨by first | with_reducible assumption | omega | assumption, ?_⟩
      first | with_reducible rfl | (refine bleaf_t ?_; omega) | (refine bleaf_f ?_; omega) | (refine ileaf ?_; omega) | rfl | (exfalso; omega)
  · have c0' : (n : Int) ≠ 0 := by omega
    by_cases c1 : (n : Int) < s.getD n i0
    · have e : posV (n + 1) s = false := by rw [posV, if_neg c0, if_pos c1]
      rw [e]
      refine body_s ([Ans.o (Orc.val 9 (I (↑n : Int)) H.nil), Ans.o (Orc.b false), Ans.o (Orc.val 18 (AV.cptr (ints (List.drop n s))) H.nil), Ans.o (Orc.val 19 (I (s.getD n i0)) H.nil), Ans.o (Orc.b true)]) (aBin Tryd.prog BinOp.sub (3 : Nat) (I (↑s.length : Int)) (I 1) = some (I (↑n : Int)) ∧ (↑n : Int) ≠ (0 : Int) ∧ aIndexAddr Tryd.prog (22 : Nat) (AV.sl (ints s) s.length r) (I (↑n : Int)) = some (AV.cptr (ints (List.drop n s))) ∧ aLoad Tryd.prog (3 : Nat) (ints (List.drop n s)) = some (I (s.getD n i0)) ∧ (↑n : Int) < s.getD n i0 ∧ (AV.bool false, H.mk [] [] []) = (AV.bool false, H.mk [] [] [])) (by kernel_rfl) ?_
      refine ⟨told_sub (by with_reducible assumption), ?_⟩
      refine ⟨by first | with_reducible assumption | omega | assumption, ?_⟩
      refine ⟨ix_ints (by kernel_rfl) hns hri, ?_⟩
      refine ⟨ld_ints (by kernel_rfl) (by kernel_rfl) hns, ?_⟩
      refine ⟨by first | with_reducible assumption | omega | assumption, ?_⟩
      first | with_reducible rfl | (refine bleaf_t ?_; omega) | (refine bleaf_f ?_; omega) | (refine ileaf ?_; omega) | rfl | (exfalso; omega)
    · have e : posV (n + 1) s = ((List.range n).all (fun i => decide (0 ≤ dv s n i)) && posV n (rsd (dec s n n))) := by rw [posV, if_neg c0, if_neg c1]
      have c1 : s.getD n i0 ≤ (n : Int) := by omega
      have lp := lp26 n hok s r hs hn ha hr
      have hnl : (n : Int) ≤ ((n + 1 : Nat) : Int) := by omega
      have hnl2 : (n : Int) ≤ (s.length : Int) := by omega
      have hS : ∀ H, aSlice Tryd.prog 22 (ls s r) none (some (I (n : Nat))) none H = some (.sl (ints (s.take n)) n .no) := fun H => by
        have := slT (P := Tryd.prog) (t := 22) (by kernel_rfl) (l := s) (n := s.length) (r := r) (lo := none) (hi := some (I (n : Nat))) (a := 0) (k := n) (H := H) rfl hri (.inr ⟨rfl, rfl⟩) (.inl rfl) (by omega) (by omega)
        rw [this]
        have hne : ¬ n = s.length := by omega
        simp [hne]
      have hS' := hS .nil
      have p63 : rok (dec s n n) (rm 0 (dec s n n)) ∧ (dec s n n).length < 1000 := ⟨rm_rok _, by rw [dec_len]; omega⟩
      have hrl : (rsd (dec s n n)).length = n := by rw [ris_len]; exact dec_len _ _ _
      have e1 : PosA s n → posV (n + 1) s = posV n (rsd (dec s n n)) := fun h => by rw [e, posA_iff.2 h]; rfl
      have e2 : ¬ PosA s n → posV (n + 1) s = false := fun h => by
        rw [e]
        cases q : (List.range n).all (fun i => decide (0 ≤ dv s n i))
        · rfl
        · exact absurd (posA_iff.1 q) h
      have p26 : PosA s n → (1 ≤ (rsd (dec s n n)).length ∧ (rsd (dec s n n)).length = n ∧ al b8 (rsd (dec s n n))) ∧ rok (rsd (dec s n n)) (rm 0 (rsd (dec s n n))).wk := fun h => ⟨⟨by omega, hrl, al_ris (by simp only [b8]; omega) (dec_b ha h) _⟩, by simp only [rok_wk]; exact rm_rok _⟩
      refine body_s ([Ans.o (Orc.val 9 (I (↑n : Int)) H.nil), Ans.o (Orc.b false), Ans.o (Orc.val 18 (AV.cptr (ints (List.drop n s))) H.nil), Ans.o (Orc.val 19 (I (s.getD n i0)) H.nil), Ans.o (Orc.b false), Ans.o (Orc.val 24 (AV.sl (ints (List.take n s)) n Room.no) H.nil), Ans.loop [(0 : Nat), (3 : Nat), (4 : Nat), (24 : Nat), (25 : Nat), (26 : Nat)] [Out.mk (List Nat) AX.ret [(2 : Nat)] (fun x => ¬PosA s n) (fun x => [AV.bool false]) (fun ts => H.mk [] ts []) fun y => [], Out.mk Unit (AX.exit (0 : Nat)) [(4 : Nat)] (fun x => PosA s n) (fun x => [lO (dec s n n)]) (fun x => hO (dec s n n)) fun y => [Ans.o (Orc.val 47 (AV.sl (ints (rsd (dec s n n))) (rsd (dec s n n)).length (rm (0 : Nat) (rsd (dec s n n))).wk) (H.mk [] (tk (dec s n n)) [])), Ans.vfork (48 : Nat) (posV n (rsd (dec s n n))) (H.mk [] (tk (dec s n n)) []) [] []]]]) (aBin Tryd.prog BinOp.sub (3 : Nat) (I (↑s.length : Int)) (I 1) = some (I (↑n : Int)) ∧ (↑n : Int) ≠ (0 : Int) ∧ aIndexAddr Tryd.prog (22 : Nat) (AV.sl (ints s) s.length r) (I (↑n : Int)) = some (AV.cptr (ints (List.drop n s))) ∧ aLoad Tryd.prog (3 : Nat) (ints (List.drop n s)) = some (I (s.getD n i0)) ∧ s.getD n i0 ≤ (↑n : Int) ∧ aSlice Tryd.prog (22 : Nat) (AV.sl (ints s) s.length r) none (some (I (↑n : Int))) none (H.mk [] [] []) = some (AV.sl (ints (List.take n s)) n Room.no) ∧ LoopS (Env.mk Tryd.prog (Sof (cs26 n hok)) (Pof (P := Tryd.prog) []) H.nil.base (300 : Nat)) (loopAt Tryd.f26 (0 : Nat)) (49 : Nat) [(0 : Nat), (3 : Nat), (4 : Nat), (24 : Nat), (25 : Nat), (26 : Nat)] [AV.sl (ints s) s.length r, I (↑n : Int), AV.sl [] (0 : Nat) Room.nil, AV.sl (ints (List.take n s)) n Room.no, I (↑n : Int), I 0] (H.mk [] [] []) [Out.mk (List Nat) AX.ret [(2 : Nat)] (fun x => ¬PosA s n) (fun x => [AV.bool false]) (fun ts => H.mk [] ts []) fun y => [], Out.mk Unit (AX.exit (0 : Nat)) [(4 : Nat)] (fun x => PosA s n) (fun x => [lO (dec s n n)]) (fun x => hO (dec s n n)) fun y => [Ans.o (Orc.val 47 (AV.sl (ints (rsd (dec s n n))) (rsd (dec s n n)).length (rm (0 : Nat) (rsd (dec s n n))).wk) (H.mk [] (tk (dec s n n)) [])), Ans.vfork (48 : Nat) (posV n (rsd (dec s n n))) (H.mk [] (tk (dec s n n)) []) [] []]] ∧ (∀ (y : List Nat), ¬PosA s n → ∀ (u : Nat → AV), (AV.bool false, H.mk [] [] []) = (AV.bool (posV (n + (1 : Nat)) s), H.mk [] [] [])) ∧ (∀ (y : Unit), PosA s n → ∀ (u : Nat → AV), aCall (Sof (cs26 n hok)) (AV.fn (Fn.func (63 : Nat)) [] []) [AV.sl (ints (dec s n n)) (dec s n n).length (rm (0 : Nat) (dec s n n))] (H.mk [] (tk (dec s n n)) []) = some (AV.sl (ints (rsd (dec s n n))) (rsd (dec s n n)).length (rm (0 : Nat) (rsd (dec s n n))).wk, H.mk [] (tk (dec s n n)) []) ∧ aCall (Sof (cs26 n hok)) (AV.fn (Fn.func (26 : Nat)) [] []) [AV.sl (ints (rsd (dec s n n))) (rsd (dec s n n)).length (rm (0 : Nat) (rsd (dec s n n))).wk] (H.mk [] (tk (dec s n n)) []) = some (AV.bool (posV n (rsd (dec s n n))), H.mk [] (tk (dec s n n)) []) ∧ (posV n (rsd (dec s n n)) = true → (AV.bool true, H.mk [] [] []) = (AV.bool (posV (n + (1 : Nat)) s), H.mk [] [] [])) ∧ (posV n (rsd (dec s n n)) = false → (AV.bool false, H.mk [] [] []) = (AV.bool (posV (n + (1 : Nat)) s), H.mk [] [] []))) ∧ True) (by kernel_rfl) ?_
      refine ⟨told_sub (by with_reducible assumption), ?_⟩
      refine ⟨by first | with_reducible assumption | omega | assumption, ?_⟩
      refine ⟨ix_ints (by kernel_rfl) hns hri, ?_⟩
      refine ⟨ld_ints (by kernel_rfl) (by kernel_rfl) hns, ?_⟩
      refine ⟨by first | with_reducible assumption | omega | assumption, ?_⟩
      refine ⟨hS _, ?_⟩
      refine ⟨lp, ?_⟩
      refine And.intro ?_ ?_
      · skip
        intro y
        intro w1
        intro u
        first | rw [e1 (by assumption), (by assumption : posV n (rsd (dec s n n)) = true)] | rw [e1 (by assumption), (by assumption : posV n (rsd (dec s n n)) = false)] | rw [e2 (by assumption)]
      · skip
        refine And.intro ?_ ?_
        · skip
          intro y
          intro w1
          intro u
          refine ⟨acall_hit (c := c63.to) (dec s n n, rm 0 (dec s n n)) _ rfl p63, ?_⟩
          refine ⟨acall_hit (c := (c26 n hok).to) (rsd (dec s n n), (rm 0 (rsd (dec s n n))).wk) _ rfl (p26 (by assumption)), ?_⟩
          refine And.intro ?_ ?_
          · skip
            intro w3
            first | rw [e1 (by assumption), (by assumption : posV n (rsd (dec s n n)) = true)] | rw [e1 (by assumption), (by assumption : posV n (rsd (dec s n n)) = false)] | rw [e2 (by assumption)]
          · skip
            intro w3
            first | rw [e1 (by assumption), (by assumption : posV n (rsd (dec s n n)) = true)] | rw [e1 (by assumption), (by assumption : posV n (rsd (dec s n n)) = false)] | rw [e2 (by assumption)]
        · skip
          trivial
theorem all26 : ∀ n, n < 1000 → Ok26 n
  | 0, _ => fun s r h1 h2 => by omega
  | n + 1, hn => fun s r h1 h2 ha hr => (r26 n (all26 n (by omega)) s r h2 (by omega) ha hr).run ok26 (ct26 n _) rfl
/-- 'Possible' -/
noncomputable def c26p : PCtr Tryd.prog where
  f := 26
  X := List Int × Room
  args x := [ls x.1 x.2]
  pre x := SB x.1 ∧ rok x.1 x.2
  v x := .bool (posV x.1.length x.1)
  det := by
    rintro ⟨l, r⟩ ⟨l', r'⟩ e _ _
    simp only [List.cons.injEq, AV.sl.injEq, and_true] at e
    rw [ints_inj e.1]
  ok := by
    rintro ⟨s, r⟩ ⟨h, h3⟩
    have hb : al b8 s := fun i => by
      rcases Nat.lt_or_ge i s.length with q | q
      · exact h.c.h i q
      · have e : s.getD i i0 = 0 := by simp [List.getD_eq_getElem?_getD, List.getElem?_eq_none q, i0]
        show b8 (s.getD i i0)
        rw [e]; simp only [b8]; omega
    exact (c26 s.length (all26 s.length (by have := h.l8; simp only at this; omega))).ok (s, r) ⟨⟨h.l1, rfl, hb⟩, h3⟩
end Go.Proofs.Rnk

