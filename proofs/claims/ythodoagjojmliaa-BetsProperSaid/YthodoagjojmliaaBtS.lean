/- Layer 9: sure forecasts; slices of fractions compared; what may still be written, copied. -/
import Derived.Test.YthodoagjojmliaaBtQ
import Derived.Test.YthodoagjojmliaaVm9
import Derived.KernelRfl
set_option linter.unusedSimpArgs false
set_option linter.unusedVariables false
set_option linter.unnecessarySimpa false
set_option maxHeartbeats 4000000
set_option maxRecDepth 100000
namespace Go.Proofs.Bts
open Go Go.VM

/-- what lowest terms are -/
theorem lw_mul {N Q : Int} (hQ : 1 ≤ Q) : 1 ≤ gcI (abI N) Q ∧ lwN N Q * gcI (abI N) Q = N ∧ lwD N Q * gcI (abI N) Q = Q := by
  have h1 := gcd1 (abI N) Q hQ
  have ha : (((abI N).toNat : Nat) : Int) = abI N := by have := abI_nn N; omega
  have hq : ((Q.toNat : Nat) : Int) = Q := by omega
  have d1 : gcI (abI N) Q ∣ abI N := by
    have : ((Nat.gcd (abI N).toNat Q.toNat : Nat) : Int) ∣ ((abI N).toNat : Nat) := Int.natCast_dvd_natCast.2 (Nat.gcd_dvd_left _ _)
    rw [ha] at this; exact this
  have d2 : gcI (abI N) Q ∣ Q := by
    have : ((Nat.gcd (abI N).toNat Q.toNat : Nat) : Int) ∣ (Q.toNat : Nat) := Int.natCast_dvd_natCast.2 (Nat.gcd_dvd_right _ _)
    rw [hq] at this; exact this
  have d3 : gcI (abI N) Q ∣ N := by
    rcases (show abI N = N ∨ abI N = -N by simp only [abI]; split <;> simp) with e | e
    · rw [e] at d1 ⊢; exact d1
    · have := Int.dvd_neg.1 (e ▸ d1 : gcI (abI N) Q ∣ -N); exact this
  exact ⟨h1, Int.tdiv_mul_cancel d3, Int.tdiv_mul_cancel d2⟩
theorem lw_self {Q : Int} (hQ : 1 ≤ Q) : lwN Q Q = 1 ∧ lwD Q Q = 1 := by
  have e : abI Q = Q := by simp only [abI]; split <;> omega
  have g : gcI (abI Q) Q = Q := by
    rw [e]
    show ((Nat.gcd Q.toNat Q.toNat : Nat) : Int) = Q
    rw [Nat.gcd_self]; omega
  unfold lwN lwD
  rw [g]
  exact ⟨Int.tdiv_self (by omega), Int.tdiv_self (by omega)⟩
theorem lw_le {N Q : Int} (hQ : 1 ≤ Q) (h1 : -Q ≤ N) (h2 : N ≤ Q) : (1 ≤ lwD N Q ∧ lwD N Q ≤ Q) ∧ (-lwD N Q ≤ lwN N Q ∧ lwN N Q ≤ lwD N Q) ∧ ((lwN N Q = 1 ∧ lwD N Q = 1) ↔ N = Q) := by
  have key : N = Q → lwN N Q = 1 ∧ lwD N Q = 1 := fun h => by rw [h]; exact lw_self hQ
  obtain ⟨g1, e1, e2⟩ := lw_mul (N := N) hQ
  generalize gcI (abI N) Q = g at g1 e1 e2
  generalize lwN N Q = x at e1 key ⊢
  generalize lwD N Q = y at e2 key ⊢
  have hy : 1 ≤ y := by
    rcases Int.lt_or_le 0 y with h | h
    · omega
    · have := Int.mul_le_mul_of_nonneg_right h (show 0 ≤ g by omega); rw [Int.zero_mul] at this; omega
  refine ⟨⟨hy, ?_⟩, ⟨?_, ?_⟩, ?_, key⟩
  · have := Int.mul_le_mul_of_nonneg_left g1 (show 0 ≤ y by omega); omega
  · refine Int.le_of_mul_le_mul_right (a := g) ?_ (by omega); rw [Int.neg_mul]; omega
  · refine Int.le_of_mul_le_mul_right (a := g) ?_ (by omega); omega
  · rintro ⟨rfl, rfl⟩; omega
/-- sums of squares -/
theorem sq_le {f : Nat → Int} {D : Int} : ∀ {n : Nat}, (∀ i, i < n → 0 ≤ f i ∧ f i ≤ D) → 0 ≤ sI (fun i => f i * f i) n ∧ sI (fun i => f i * f i) n ≤ D * sI f n
  | 0, _ => by simp [sI]
  | n + 1, h => by
    have h1 := sq_le (n := n) fun i hi => h i (by omega)
    have h2 := h n (by omega)
    have h3 := Int.mul_nonneg h2.1 h2.1
    have h4 := Int.mul_le_mul_of_nonneg_right h2.2 h2.1
    simp only [sI]
    rw [Int.mul_add]; omega
abbrev o42 (l m : List Pr) : List Out :=
  [.mk Unit .ret [4] (fun _ => l ≠ m) (fun _ => [.bool false]) (fun _ => .nil) (fun _ => []),
   .mk Unit (.exit 0) [] (fun _ => l = m) (fun _ => []) (fun _ => .nil) (fun _ => [])]
theorem simp42 : allSimpleM none1 (loopAt Try.f42 0) = true := by kernel_rfl
theorem lp42 (l m : List Pr) (r q : Room) (h0 : lim l.length) (hl : l.length = m.length) (hr0 : rok l r) (hq0 : rok m q) :
    LoopS (En6 []) (loopAt Try.f42 0) 26 [0, 1, 12, 13] [pz l r, pz m q, I l.length, I 0] .nil (o42 l m) := by
  have hR : Rests (En6 []) none1 := rests mixed .nil
  refine loop_s hR simp42 none (by intro _ h; cases h) (fun j vs h => h = .nil ∧ vs = [pz l r, pz m q, I l.length, I (j : Nat)] ∧ ∀ i, i < j → l.getD i pair0 = m.getD i pair0) l.length ⟨rfl, rfl, fun i hi => absurd hi (by omega)⟩ (by intro _ h; cases h) ?_
  rintro j vs h hj ⟨rfl, rfl, ha⟩
  by_cases hz : (j : Int) < l.length
  · have hz' : j < l.length := by omega
    have hzm : j < m.length := by omega
    have hzm' : (j : Int) < m.length := by omega
    have hr := rok_idx hr0 hz'
    have hq := rok_idx hq0 hzm
    have ev0 := wj1 (j := j) (by simp only [lim] at h0; omega)
    refine ⟨[Ans.o (Orc.b true), Ans.o (Orc.val 18 (AV.cptr (pairsA (List.drop j l))) H.nil), Ans.o (Orc.val 19 (AV.agg [I (l.getD j pair0).fst, I (l.getD j pair0).snd]) H.nil), Ans.o (Orc.val 22 (AV.cptr (pairsA (List.drop j m))) H.nil), Ans.o (Orc.val 23 (AV.agg [I (m.getD j pair0).fst, I (m.getD j pair0).snd]) H.nil), Ans.bfork (24 : Nat) [] [Ans.o (Orc.val 25 (I (↑(j + (1 : Nat)) : Int)) H.nil)]], fun u => of_eq ((↑j : Int) < (↑l.length : Int) ∧ aIndexAddr Try.prog (23 : Nat) (AV.sl (pairsA l) l.length r) (I (↑j : Int)) = some (AV.cptr (pairsA (List.drop j l))) ∧ aLoad Try.prog (47 : Nat) (pairsA (List.drop j l)) = some (AV.agg [I (l.getD j pair0).fst, I (l.getD j pair0).snd]) ∧ aIndexAddr Try.prog (23 : Nat) (AV.sl (pairsA m) m.length q) (I (↑j : Int)) = some (AV.cptr (pairsA (List.drop j m))) ∧ aLoad Try.prog (47 : Nat) (pairsA (List.drop j m)) = some (AV.agg [I (m.getD j pair0).fst, I (m.getD j pair0).snd]) ∧ ((!((l.getD j pair0).fst == (m.getD j pair0).fst && ((l.getD j pair0).snd == (m.getD j pair0).snd && true))) = true → (26 : Nat) = (26 : Nat) ∧ hits [Out.mk Unit AX.ret [(4 : Nat)] (fun x => l ≠ m) (fun x => [AV.bool false]) (fun x => H.nil) fun x => [], Out.mk Unit (AX.exit (0 : Nat)) [] (fun x => l = m) (fun x => []) (fun x => H.nil) fun x => []] AX.ret [AV.sl (pairsA l) l.length r, AV.sl (pairsA m) m.length q, u (2 : Nat), u (3 : Nat), AV.bool false, I (↑j : Int), u (6 : Nat), u (7 : Nat), u (8 : Nat), u (9 : Nat), u (10 : Nat), u (11 : Nat), I (↑l.length : Int), I (↑j : Int), AV.bool true, I (↑j : Int), AV.sl (pairsA l) l.length r, I (↑j : Int), AV.cptr (pairsA (List.drop j l)), AV.agg [I (l.getD j pair0).fst, I (l.getD j pair0).snd], AV.sl (pairsA m) m.length q, I (↑j : Int), AV.cptr (pairsA (List.drop j m)), AV.agg [I (m.getD j pair0).fst, I (m.getD j pair0).snd], AV.bool true, u (25 : Nat)] (H.mk [] [] [])) ∧ ((!((l.getD j pair0).fst == (m.getD j pair0).fst && ((l.getD j pair0).snd == (m.getD j pair0).snd && true))) = false → aBin Try.prog BinOp.add (3 : Nat) (I (↑j : Int)) (I 1) = some (I (↑(j + (1 : Nat)) : Int)) ∧ (26 : Nat) = (26 : Nat) ∧ j < l.length ∧ Keep (H.mk [] [] [] = H.mk [] [] [] ∧ [AV.sl (pairsA l) l.length r, AV.sl (pairsA m) m.length q, I (↑l.length : Int), I (↑(j + (1 : Nat)) : Int)] = [AV.sl (pairsA l) l.length r, AV.sl (pairsA m) m.length q, I (↑l.length : Int), I (↑(j + (1 : Nat)) : Int)] ∧ ∀ (i : Nat), i < j + (1 : Nat) → l.getD i pair0 = m.getD i pair0))) (by kernel_rfl) ?_⟩
    refine ⟨by first | with_reducible assumption | omega | assumption, ?_⟩
    refine ⟨by first | exact ix_pairs (by kernel_rfl) hz' hr | exact ix_pairs (by kernel_rfl) hzm hq, ?_⟩
    refine ⟨by first | exact ld_pairs (by kernel_rfl) (by kernel_rfl) (by kernel_rfl) hz' | exact ld_pairs (by kernel_rfl) (by kernel_rfl) (by kernel_rfl) hzm, ?_⟩
    refine ⟨by first | exact ix_pairs (by kernel_rfl) hz' hr | exact ix_pairs (by kernel_rfl) hzm hq, ?_⟩
    refine ⟨by first | exact ld_pairs (by kernel_rfl) (by kernel_rfl) (by kernel_rfl) hz' | exact ld_pairs (by kernel_rfl) (by kernel_rfl) (by kernel_rfl) hzm, ?_⟩
    refine And.intro ?_ ?_
    · skip
      intro w0
      refine ⟨by first | with_reducible assumption | omega | assumption, ?_⟩
      exact .inl ⟨(), fun e => by subst e; simp at w0, rfl, rfl, rfl⟩
    · skip
      intro w0
      refine ⟨told_add (by with_reducible assumption), ?_⟩
      refine ⟨by first | with_reducible assumption | omega | assumption, ?_⟩
      refine ⟨by first | with_reducible assumption | omega | assumption, ?_⟩
      exact ⟨rfl, rfl, all_succ (q := fun i => l.getD i pair0 = m.getD i pair0) ha (by simp at w0; exact Prod.ext (by simp [w0]) (by simp [w0]))⟩
  · have hz : (l.length : Int) ≤ j := by omega
    have e : l = m := List.ext_getElem hl fun i h1 h2 => by
      have := ha i (by omega)
      simpa [List.getD_eq_getElem?_getD, h1, h2] using this
    refine ⟨[Ans.o (Orc.b false)], fun u => of_eq ((↑l.length : Int) ≤ (↑j : Int) ∧ (26 : Nat) = (26 : Nat) ∧ hits [Out.mk Unit AX.ret [(4 : Nat)] (fun x => l ≠ m) (fun x => [AV.bool false]) (fun x => H.nil) fun x => [], Out.mk Unit (AX.exit (0 : Nat)) [] (fun x => l = m) (fun x => []) (fun x => H.nil) fun x => []] (AX.exit (0 : Nat)) [AV.sl (pairsA l) l.length r, AV.sl (pairsA m) m.length q, u (2 : Nat), u (3 : Nat), u (4 : Nat), u (5 : Nat), u (6 : Nat), u (7 : Nat), u (8 : Nat), u (9 : Nat), u (10 : Nat), u (11 : Nat), I (↑l.length : Int), I (↑j : Int), AV.bool false, u (15 : Nat), u (16 : Nat), u (17 : Nat), u (18 : Nat), u (19 : Nat), u (20 : Nat), u (21 : Nat), u (22 : Nat), u (23 : Nat), u (24 : Nat), u (25 : Nat)] (H.mk [] [] [])) (by kernel_rfl) ?_⟩
    refine ⟨by first | with_reducible assumption | omega | assumption, ?_⟩
    refine ⟨by first | with_reducible assumption | omega | assumption, ?_⟩
    exact .inr (.inl ⟨(), e, rfl, rfl, rfl⟩)
open Classical in
noncomputable def eqB (l m : List Pr) : Bool := decide (l = m)
theorem eqB_t {l m : List Pr} (h : l = m) : eqB l m = true := by simp only [eqB, decide_eq_true_eq]; exact h
theorem eqB_f {l m : List Pr} (h : l ≠ m) : eqB l m = false := by simp only [eqB, decide_eq_false_iff_not]; exact h
theorem ok42 : FokM Try.prog none1 42 Try.f42 := ⟨mixed, by kernel_rfl, by kernel_rfl, by kernel_rfl, by kernel_rfl⟩
abbrev p42 (l : List Pr) (r : Room) (m : List Pr) (q : Room) : Prop := (lim l.length ∧ lim m.length) ∧ rok l r ∧ rok m q
theorem r42 (l : List Pr) (r : Room) (m : List Pr) (q : Room) (hp : p42 l r m q) : Body (En6 []) none1 Try.f42 [pz l r, pz m q] .nil (.bool (eqB l m), .nil) := by
  by_cases hl : l.length = m.length
  · have hl' : (l.length : Int) = m.length := by omega
    have lp := lp42 l m r q hp.1.1 hl hp.2.1 hp.2.2
    refine body_s ([Ans.o (Orc.b false), Ans.loop [(0 : Nat), (1 : Nat), (12 : Nat), (13 : Nat)] [Out.mk Unit AX.ret [(4 : Nat)] (fun x => l ≠ m) (fun x => [AV.bool false]) (fun x => H.nil) fun y => [], Out.mk Unit (AX.exit (0 : Nat)) [] (fun x => l = m) (fun x => []) (fun x => H.nil) fun y => []]]) ((↑l.length : Int) = (↑m.length : Int) ∧ LoopS (Env.mk Try.prog (Sof (P := Try.prog) []) (Pof (P := Try.prog) []) H.nil.base (300 : Nat)) (loopAt Try.f42 (0 : Nat)) (26 : Nat) [(0 : Nat), (1 : Nat), (12 : Nat), (13 : Nat)] [AV.sl (pairsA l) l.length r, AV.sl (pairsA m) m.length q, I (↑l.length : Int), I 0] (H.mk [] [] []) [Out.mk Unit AX.ret [(4 : Nat)] (fun x => l ≠ m) (fun x => [AV.bool false]) (fun x => H.nil) fun y => [], Out.mk Unit (AX.exit (0 : Nat)) [] (fun x => l = m) (fun x => []) (fun x => H.nil) fun y => []] ∧ (∀ (y : Unit), l ≠ m → ∀ (u : Nat → AV), (AV.bool false, H.mk [] [] []) = (AV.bool (eqB l m), H.mk [] [] [])) ∧ (∀ (y : Unit), l = m → ∀ (u : Nat → AV), (AV.bool true, H.mk [] [] []) = (AV.bool (eqB l m), H.mk [] [] [])) ∧ True) (by kernel_rfl) ?_
    refine ⟨by first | with_reducible assumption | omega | assumption, ?_⟩
    refine ⟨lp, ?_⟩
    refine And.intro ?_ ?_
    · skip
      intro y
      intro w1
      intro u
      first | rw [eqB_t (by assumption)] | rw [eqB_f (by assumption)]
    · skip
      refine And.intro ?_ ?_
      · skip
        intro y
        intro w1
        intro u
        first | rw [eqB_t (by assumption)] | rw [eqB_f (by assumption)]
      · skip
        trivial
  · have hl' : (l.length : Int) ≠ m.length := by omega
    rw [eqB_f (fun e => hl (by rw [e]))]
    refine body_s ([Ans.o (Orc.b true)]) ((↑l.length : Int) ≠ (↑m.length : Int) ∧ (AV.bool false, H.mk [] [] []) = (AV.bool false, H.mk [] [] [])) (by kernel_rfl) ?_
    refine ⟨by first | with_reducible assumption | omega | assumption, ?_⟩
    rfl
noncomputable def c42 : PCtr Try.prog := sctr ok42 (X := (List Pr × Room) × List Pr × Room) (fun x => [pz x.1.1 x.1.2, pz x.2.1 x.2.2]) (fun x => p42 x.1.1 x.1.2 x.2.1 x.2.2) (fun x => .bool (eqB x.1.1 x.2.1))
  (by
    rintro ⟨⟨l, r⟩, m, s⟩ ⟨⟨l', r'⟩, m', s'⟩ e _ _
    simp only [List.cons.injEq, and_true] at e
    simp only [pz_det e.1, pz_det e.2]) (fun x => by simp [AV.bnds, AV.bnd, AV.wk, rm_wk_bnd]) (fun x => rfl)
  (fun x hx => ⟨_, _, _, .nil, r42 x.1.1 x.1.2.wk x.2.1 x.2.2.wk ⟨hx.1, by simpa using hx.2.1, by simpa using hx.2.2⟩⟩)
theorem flats_pairs : ∀ l : List Pr, AV.flats (pairsA l) = true
  | [] => rfl
  | _ :: l => by simp [AV.flats, AV.flat, flats_pairs l]
/-- a copy, as it is made -/
noncomputable def c58t : Ctr Try.prog where
  f := 58
  X := List Pr × Nat
  args x := [.sl (pairsA x.1) x.2 .no]
  pre x h := h = .nil ∧ x.1.length = x.2 ∧ x.1 ≠ [] ∧ x.2 ≤ 1000000000
  res x _ := (.sl (pairsA x.1) x.2 (.tok 0 2), ⟨[], [x.2], []⟩)
  det := by
    rintro ⟨l, n⟩ ⟨l', n'⟩ h e _ _
    simp only [List.cons.injEq, AV.sl.injEq, and_true] at e
    obtain ⟨e1, rfl⟩ := e
    rw [pairsA_inj e1]
  ok := by
    rintro ⟨l, n⟩ h ⟨rfl, hn, hne, hb⟩
    try simp only at hn hne hb
    cases l with
    | nil => exact absurd rfl hne
    | cons x l => exact ⟨ok58.call, (r58 x l n hn hb).run ok58 .nil rfl⟩
abbrev M58 : FuncId → Bool := fun f => f == 58
theorem ok21m : FokM Try.prog M58 21 Try.f21 := ⟨mixed, by kernel_rfl, by kernel_rfl, by kernel_rfl, by kernel_rfl⟩
theorem r21t (l : List Pr) (hne : l ≠ []) (h8 : l.length ≤ 8) : Body (En6 [c58t]) M58 Try.f21 [pz l .no] .nil (.sl (pairsA l) l.length (.tok 0 2), ⟨[], [l.length], []⟩) := by
  have hk : (l.take (pick2 false (l.length : Int) 8).toNat) = l ∧ (pick2 false (l.length : Int) 8).toNat = l.length ∧ 0 ≤ pick2 false (l.length : Int) 8 ∧ pick2 false (l.length : Int) 8 ≤ 8 ∧ pick2 false (l.length : Int) 8 ≤ l.length := by
    simp only [pick2, Bool.false_eq_true, if_false]
    rw [if_neg (by omega)]
    exact ⟨List.take_of_length_le (by simp), by omega, by omega, by omega, by omega⟩
  have p58 : (l.take (pick2 false (l.length : Int) 8).toNat).length = (pick2 false (l.length : Int) 8).toNat ∧ l.take (pick2 false (l.length : Int) 8).toNat ≠ [] ∧ (pick2 false (l.length : Int) 8).toNat ≤ 1000000000 := ⟨by rw [hk.1, hk.2.1], by rw [hk.1]; exact hne, by omega⟩
  refine body_s ([Ans.o (Orc.val 7 (AV.sl (pairsA (List.take (pick2 false (↑l.length : Int) (8 : Int)).toNat l)) (pick2 false (↑l.length : Int) (8 : Int)).toNat Room.no) H.nil), Ans.o (Orc.val 8 (AV.sl (pairsA (List.take (pick2 false (↑l.length : Int) (8 : Int)).toNat l)) (pick2 false (↑l.length : Int) (8 : Int)).toNat (Room.tok 0 2)) (H.mk [] [(pick2 false (↑l.length : Int) (8 : Int)).toNat] []))]) (aSlice Try.prog (23 : Nat) (AV.sl (pairsA l) l.length Room.no) none (some (I (pick2 false (↑l.length : Int) (8 : Int)))) none (H.mk [] [] []) = some (AV.sl (pairsA (List.take (pick2 false (↑l.length : Int) (8 : Int)).toNat l)) (pick2 false (↑l.length : Int) (8 : Int)).toNat Room.no) ∧ aCall (Sof [c58t]) (AV.fn (Fn.func (58 : Nat)) [] []) [AV.sl (pairsA (List.take (pick2 false (↑l.length : Int) (8 : Int)).toNat l)) (pick2 false (↑l.length : Int) (8 : Int)).toNat Room.no] (H.mk [] [] []) = some (AV.sl (pairsA (List.take (pick2 false (↑l.length : Int) (8 : Int)).toNat l)) (pick2 false (↑l.length : Int) (8 : Int)).toNat (Room.tok 0 2), H.mk [] [(pick2 false (↑l.length : Int) (8 : Int)).toNat] []) ∧ leave (Base.mk H.nil.blk.length H.nil.toks.length H.nil.maps.length) (AV.sl (pairsA (List.take (pick2 false (↑l.length : Int) (8 : Int)).toNat l)) (pick2 false (↑l.length : Int) (8 : Int)).toNat (Room.tok 0 2)) (H.mk [] [(pick2 false (↑l.length : Int) (8 : Int)).toNat] []) = (AV.sl (pairsA l) l.length (Room.tok 0 2), H.mk [] [l.length] [])) (by kernel_rfl) ?_
  refine ⟨sl_pairs (by kernel_rfl) hk.2.2.1 hk.2.2.2.2, ?_⟩
  refine ⟨acall_hit (c := c58t) (l.take (pick2 false (l.length : Int) 8).toNat, (pick2 false (l.length : Int) 8).toNat) _ rfl ⟨rfl, p58⟩, ?_⟩
  (rw [hk.1, hk.2.1]; exact leave_pairs _ _)
end Go.Proofs.Bts

