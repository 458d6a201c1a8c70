/- Layer 6: numbers, weights, replies. -/
import Derived.Test.YtaobnlpfaeecnaaGsE
import Derived.Test.YtaobnlpfaeecnaaVm6
import Derived.KernelRfl
set_option linter.unusedSimpArgs false
set_option linter.unusedVariables false
set_option linter.unnecessarySimpa false
set_option maxHeartbeats 4000000
set_option maxRecDepth 100000
namespace Go.Proofs.Gss
open Go Go.VM

/-- a state with as many elements as there may be -/
def nf (l : List Int) (i : Nat) : Int := (List.replicate (4 - l.length) 0 ++ l).getD i 0
theorem l4_cases {l : List Int} (h : l4 l) : (∃ a, l = [a]) ∨ (∃ a b, l = [a, b]) ∨ (∃ a b c, l = [a, b, c]) ∨ ∃ a b c d, l = [a, b, c, d] := by
  match l, h with
  | [a], _ => exact .inl ⟨a, rfl⟩
  | [a, b], _ => exact .inr (.inl ⟨a, b, rfl⟩)
  | [a, b, c], _ => exact .inr (.inr (.inl ⟨a, b, c, rfl⟩))
  | [a, b, c, d], _ => exact .inr (.inr (.inr ⟨a, b, c, d, rfl⟩))
  | a :: b :: c :: d :: e :: t, h => exact absurd h.2 (by simp)
theorem nf_sj {l : List Int} (h : l4 l) : nf l 0 + nf l 1 + nf l 2 + nf l 3 = sj l l.length := by
  rcases l4_cases h with ⟨a, rfl⟩ | ⟨a, b, rfl⟩ | ⟨a, b, c, rfl⟩ | ⟨a, b, c, d, rfl⟩ <;> simp [nf, sj, ia]
theorem nf_bd {m : Int} (hm : 0 ≤ m) {l : List Int} (h : l4 l) (hw : wn 0 m l = true) (i : Nat) (hi : i < 4) : 0 ≤ nf l i ∧ nf l i ≤ m := by
  have g := fun i hi => wn_get hw (i := i) hi
  rcases l4_cases h with ⟨a, rfl⟩ | ⟨a, b, rfl⟩ | ⟨a, b, c, rfl⟩ | ⟨a, b, c, d, rfl⟩
  · have g0 := g 0 (by simp); simp [ia] at g0
    match i, hi with
    | 0, _ | 1, _ | 2, _ | 3, _ => simp [nf]; try omega
  · have g0 := g 0 (by simp); have g1 := g 1 (by simp); simp [ia] at g0 g1
    match i, hi with
    | 0, _ | 1, _ | 2, _ | 3, _ => simp [nf]; try omega
  · have g0 := g 0 (by simp); have g1 := g 1 (by simp); have g2 := g 2 (by simp); simp [ia] at g0 g1 g2
    match i, hi with
    | 0, _ | 1, _ | 2, _ | 3, _ => simp [nf]; try omega
  · have g0 := g 0 (by simp); have g1 := g 1 (by simp); have g2 := g 2 (by simp); have g3 := g 3 (by simp); simp [ia] at g0 g1 g2 g3
    match i, hi with
    | 0, _ | 1, _ | 2, _ | 3, _ => simp [nf]; try omega
abbrev a4 (a b c d : Int) : AV := .agg [I a, I b, I c, I d]
theorem ok68 : FokM Try.prog none1 68 Try.f68 := ⟨mixed, by kernel_rfl, by kernel_rfl, by kernel_rfl, by kernel_rfl⟩
theorem r68 (l : List Int) (r : Room) (hp : l4 l) : Body ⟨Try.prog, Sof (P := Try.prog) [], Pof (P := Try.prog) [], H.nil.base, 300⟩ none1 Try.f68 [ls l r] .nil (a4 (nf l 0) (nf l 1) (nf l 2) (nf l 3), .nil) := by
  rcases l4_cases hp with ⟨a, rfl⟩ | ⟨a, b, rfl⟩ | ⟨a, b, c, rfl⟩ | ⟨a, b, c, d, rfl⟩
  · refine body_s ([]) (IntKind.i64.wrap ((4 : Int) - (↑[a].length : Int)) = (4 : Int) - (↑[a].length : Int) ∧ (AV.agg [I 0, I 0, I 0, I a], H.mk [] [] []) = (AV.agg [I (nf [a] (0 : Nat)), I (nf [a] (1 : Nat)), I (nf [a] (2 : Nat)), I (nf [a] (3 : Nat))], H.mk [] [] [])) (by kernel_rfl) ?_
    refine ⟨wr _ (by omega) (by omega), ?_⟩
    rfl
  · refine body_s ([]) (IntKind.i64.wrap ((4 : Int) - (↑[a, b].length : Int)) = (4 : Int) - (↑[a, b].length : Int) ∧ (AV.agg [I 0, I 0, I a, I b], H.mk [] [] []) = (AV.agg [I (nf [a, b] (0 : Nat)), I (nf [a, b] (1 : Nat)), I (nf [a, b] (2 : Nat)), I (nf [a, b] (3 : Nat))], H.mk [] [] [])) (by kernel_rfl) ?_
    refine ⟨wr _ (by omega) (by omega), ?_⟩
    rfl
  · refine body_s ([]) (IntKind.i64.wrap ((4 : Int) - (↑[a, b, c].length : Int)) = (4 : Int) - (↑[a, b, c].length : Int) ∧ (AV.agg [I 0, I a, I b, I c], H.mk [] [] []) = (AV.agg [I (nf [a, b, c] (0 : Nat)), I (nf [a, b, c] (1 : Nat)), I (nf [a, b, c] (2 : Nat)), I (nf [a, b, c] (3 : Nat))], H.mk [] [] [])) (by kernel_rfl) ?_
    refine ⟨wr _ (by omega) (by omega), ?_⟩
    rfl
  · refine body_s ([]) (IntKind.i64.wrap ((4 : Int) - (↑[a, b, c, d].length : Int)) = (4 : Int) - (↑[a, b, c, d].length : Int) ∧ (AV.agg [I a, I b, I c, I d], H.mk [] [] []) = (AV.agg [I (nf [a, b, c, d] (0 : Nat)), I (nf [a, b, c, d] (1 : Nat)), I (nf [a, b, c, d] (2 : Nat)), I (nf [a, b, c, d] (3 : Nat))], H.mk [] [] [])) (by kernel_rfl) ?_
    refine ⟨wr _ (by omega) (by omega), ?_⟩
    rfl
noncomputable def c68 : PCtr Try.prog := sctr ok68 (X := List Int × Room) (fun x => [ls x.1 x.2]) (fun x => l4 x.1) (fun x => a4 (nf x.1 0) (nf x.1 1) (nf x.1 2) (nf x.1 3)) (by intro x y e _ _; simp [Int.natCast_inj] at e; simp [e]) (fun x => by simp [AV.bnds, AV.bnd, AV.wk, rm_wk_bnd]) (fun x => by first | rfl | (simp [AV.bnd, rm_wk_bnd]; done)  | (simp [AV.bnd, AV.bnds, rm_wk_bnd]; done) | simp [AV.bnd, AV.bnds, Room.bnd, rm_wk_bnd]) (fun x hx => ⟨_, _, _, .nil, r68 (x.1) (x.2).wk (by first | exact hx | (simp only [rok_wk]; exact hx) | (simp only [rok_wk, lst_wk]; exact hx) | (simp only [rok_wk, lst_wk, lsn_wk]; exact hx))⟩)
abbrev b200 (x : Int) : Prop := 0 ≤ x ∧ x ≤ 200
theorem ok77 : FokM Try.prog none1 77 Try.f77 := ⟨mixed, by kernel_rfl, by kernel_rfl, by kernel_rfl, by kernel_rfl⟩
theorem r77 (a : Int) (b : Int) (c : Int) (d : Int) (hp : b200 a ∧ b200 b ∧ b200 c ∧ b200 d) : Body ⟨Try.prog, Sof (P := Try.prog) [], Pof (P := Try.prog) [], H.nil.base, 300⟩ none1 Try.f77 [a4 a b c d] .nil (I (a + b + c + d), .nil) := by
  obtain ⟨h1, h2, h3, h4⟩ := hp
  refine body_s ([Ans.o Orc.dflt, Ans.o Orc.dflt, Ans.o Orc.dflt, Ans.o Orc.dflt, Ans.o Orc.dflt]) (IntKind.i64.wrap ((0 : Int) + a) = (0 : Int) + a ∧ IntKind.i64.wrap (1 : Int) = (1 : Int) ∧ IntKind.i64.wrap ((0 : Int) + a + b) = (0 : Int) + a + b ∧ IntKind.i64.wrap (2 : Int) = (2 : Int) ∧ IntKind.i64.wrap ((0 : Int) + a + b + c) = (0 : Int) + a + b + c ∧ IntKind.i64.wrap (3 : Int) = (3 : Int) ∧ IntKind.i64.wrap ((0 : Int) + a + b + c + d) = (0 : Int) + a + b + c + d ∧ IntKind.i64.wrap (4 : Int) = (4 : Int) ∧ (I ((0 : Int) + a + b + c + d), H.mk [] [] []) = (I (a + b + c + d), H.mk [] [] [])) (by kernel_rfl) ?_
  refine ⟨wr _ (by omega) (by omega), ?_⟩
  refine ⟨wr _ (by omega) (by omega), ?_⟩
  refine ⟨wr _ (by omega) (by omega), ?_⟩
  refine ⟨wr _ (by omega) (by omega), ?_⟩
  refine ⟨wr _ (by omega) (by omega), ?_⟩
  refine ⟨wr _ (by omega) (by omega), ?_⟩
  refine ⟨wr _ (by omega) (by omega), ?_⟩
  refine ⟨wr _ (by omega) (by omega), ?_⟩
  exact ileaf (by omega)
noncomputable def c77 : PCtr Try.prog := sctr ok77 (X := Int × Int × Int × Int) (fun x => [a4 x.1 x.2.1 x.2.2.1 x.2.2.2]) (fun x => b200 x.1 ∧ b200 x.2.1 ∧ b200 x.2.2.1 ∧ b200 x.2.2.2) (fun x => I (x.1 + x.2.1 + x.2.2.1 + x.2.2.2)) (by intro x y e _ _; simp [Int.natCast_inj] at e; simp [e]) (fun x => by simp [AV.bnds, AV.bnd, AV.wk, rm_wk_bnd]) (fun x => by first | rfl | (simp [AV.bnd, rm_wk_bnd]; done)  | (simp [AV.bnd, AV.bnds, rm_wk_bnd]; done) | simp [AV.bnd, AV.bnds, Room.bnd, rm_wk_bnd]) (fun x hx => ⟨_, _, _, .nil, r77 (x.1) (x.2.1) (x.2.2.1) (x.2.2.2) hx⟩)
noncomputable def c71o : PCtr Try.prog := re c71 (Y := (Int × Int × List Int × Room) ⊕ (Int × Int × Int)) (Sum.elim (fun x => x) fun y => (y.1, y.2.1, [y.2.2], .full)) (Sum.elim (fun x => [I x.1, I x.2.1, ls x.2.2.1 x.2.2.2]) fun y => [I y.1, I y.2.1, s1 y.2.2]) (by rintro (x | y) <;> rfl)
abbrev hX (lo hi : Int) (l : List Int) (r : Room) : c71o.X := (Sum.inl (lo, hi, l, r) : (Int × Int × List Int × Room) ⊕ (Int × Int × Int))
abbrev hY (lo hi x : Int) : c71o.X := (Sum.inr (lo, hi, x) : (Int × Int × List Int × Room) ⊕ (Int × Int × Int))
theorem l4_len {x : List Int} : wn 1 4 [(x.length : Int)] = decide (l4 x) := by
  rw [wn1, decide_eq_decide]; omega
theorem ok66 : FokM Try.prog none1 66 Try.f66 := ⟨mixed, by kernel_rfl, by kernel_rfl, by kernel_rfl, by kernel_rfl⟩
theorem r66 (x : List Int) (r : Room) (hp : lim x.length ∧ rok x r) : Body ⟨Try.prog, Sof (P := Try.prog) [c71o.to, c68.to, c77.to], Pof (P := Try.prog) [], H.nil.base, 300⟩ none1 Try.f66 [ls x r] .nil (.bool (stB x 200), .nil) := by
  obtain ⟨h3, h4⟩ := hp
  have q : lim x.length ∧ rok x r := ⟨h3, h4⟩
  by_cases h1 : l4 x
  · have a1 : wn 1 4 [(x.length : Int)] = true := by rw [l4_len]; exact decide_eq_true h1
    cases hw : wn 0 200 x
    · have e : stB x 200 = false := by simp [stB, hw]
      rw [e]
      refine body_s ([Ans.o (Orc.val 6 (AV.bool true) (H.mk [] [] [])), Ans.o (Orc.val 9 (AV.bool false) (H.mk [] [] []))]) (aCall (Sof [c71o.to, c68.to, c77.to]) (AV.fn (Fn.func (71 : Nat)) [] []) [I 1, I 4, AV.sl [I (↑x.length : Int)] (1 : Nat) Room.full] (H.mk [] [] []) = some (AV.bool true, H.mk [] [] []) ∧ aCall (Sof [c71o.to, c68.to, c77.to]) (AV.fn (Fn.func (71 : Nat)) [] []) [I 0, I 200, AV.sl (ints x) x.length r] (H.mk [] [] []) = some (AV.bool false, H.mk [] [] []) ∧ (AV.bool false, H.mk [] [] []) = (AV.bool false, H.mk [] [] [])) (by kernel_rfl) ?_
      refine ⟨by first | exact acall_b (acall_hit (c := c71o.to) (hY 1 4 x.length) _ rfl (k1 _)) a1 | exact acall_b (acall_hit (c := c71o.to) (hX 0 200 x r) _ rfl q) hw, ?_⟩
      refine ⟨by first | exact acall_b (acall_hit (c := c71o.to) (hY 1 4 x.length) _ rfl (k1 _)) a1 | exact acall_b (acall_hit (c := c71o.to) (hX 0 200 x r) _ rfl q) hw, ?_⟩
      rfl
    · have e : stB x 200 = decide (sj x x.length ≤ 200) := by simp [stB, hw, decide_eq_true h1]
      have p77 : b200 (nf x 0) ∧ b200 (nf x 1) ∧ b200 (nf x 2) ∧ b200 (nf x 3) := ⟨nf_bd (by omega) h1 hw 0 (by omega), nf_bd (by omega) h1 hw 1 (by omega), nf_bd (by omega) h1 hw 2 (by omega), nf_bd (by omega) h1 hw 3 (by omega)⟩
      have hs := nf_sj h1
      rw [e]
      refine body_s ([Ans.o (Orc.val 6 (AV.bool true) (H.mk [] [] [])), Ans.o (Orc.val 9 (AV.bool true) (H.mk [] [] [])), Ans.o (Orc.val 13 (AV.agg [I (nf x (0 : Nat)), I (nf x (1 : Nat)), I (nf x (2 : Nat)), I (nf x (3 : Nat))]) (H.mk [] [] [])), Ans.o (Orc.val 14 (I (nf x (0 : Nat) + nf x (1 : Nat) + nf x (2 : Nat) + nf x (3 : Nat))) (H.mk [] [] [])), Ans.fork [] []]) (aCall (Sof [c71o.to, c68.to, c77.to]) (AV.fn (Fn.func (71 : Nat)) [] []) [I 1, I 4, AV.sl [I (↑x.length : Int)] (1 : Nat) Room.full] (H.mk [] [] []) = some (AV.bool true, H.mk [] [] []) ∧ aCall (Sof [c71o.to, c68.to, c77.to]) (AV.fn (Fn.func (71 : Nat)) [] []) [I 0, I 200, AV.sl (ints x) x.length r] (H.mk [] [] []) = some (AV.bool true, H.mk [] [] []) ∧ aCall (Sof [c71o.to, c68.to, c77.to]) (AV.fn (Fn.func (68 : Nat)) [] []) [AV.sl (ints x) x.length r] (H.mk [] [] []) = some (AV.agg [I (nf x (0 : Nat)), I (nf x (1 : Nat)), I (nf x (2 : Nat)), I (nf x (3 : Nat))], H.mk [] [] []) ∧ aCall (Sof [c71o.to, c68.to, c77.to]) (AV.fn (Fn.func (77 : Nat)) [] []) [AV.agg [I (nf x (0 : Nat)), I (nf x (1 : Nat)), I (nf x (2 : Nat)), I (nf x (3 : Nat))]] (H.mk [] [] []) = some (I (nf x (0 : Nat) + nf x (1 : Nat) + nf x (2 : Nat) + nf x (3 : Nat)), H.mk [] [] []) ∧ (nf x (0 : Nat) + nf x (1 : Nat) + nf x (2 : Nat) + nf x (3 : Nat) ≤ (200 : Int) → (AV.bool true, H.mk [] [] []) = (AV.bool (decide (sj x x.length ≤ (200 : Int))), H.mk [] [] [])) ∧ ((200 : Int) < nf x (0 : Nat) + nf x (1 : Nat) + nf x (2 : Nat) + nf x (3 : Nat) → (AV.bool false, H.mk [] [] []) = (AV.bool (decide (sj x x.length ≤ (200 : Int))), H.mk [] [] []))) (by kernel_rfl) ?_
      refine ⟨by first | exact acall_b (acall_hit (c := c71o.to) (hY 1 4 x.length) _ rfl (k1 _)) a1 | exact acall_b (acall_hit (c := c71o.to) (hX 0 200 x r) _ rfl q) hw, ?_⟩
      refine ⟨by first | exact acall_b (acall_hit (c := c71o.to) (hY 1 4 x.length) _ rfl (k1 _)) a1 | exact acall_b (acall_hit (c := c71o.to) (hX 0 200 x r) _ rfl q) hw, ?_⟩
      refine ⟨acall_hit (c := c68.to) (x, r) _ rfl h1, ?_⟩
      refine ⟨acall_hit (c := c77.to) (nf x 0, nf x 1, nf x 2, nf x 3) _ rfl p77, ?_⟩
      refine And.intro ?_ ?_
      · skip
        intro w0
        first | exact bleaf_t (by omega) | exact bleaf_f (by omega)
      · skip
        intro w0
        first | exact bleaf_t (by omega) | exact bleaf_f (by omega)
  · have a1 : wn 1 4 [(x.length : Int)] = false := by rw [l4_len]; exact decide_eq_false h1
    have e : stB x 200 = false := by simp [stB, decide_eq_false h1]
    rw [e]
    refine body_s ([Ans.o (Orc.val 6 (AV.bool false) (H.mk [] [] []))]) (aCall (Sof [c71o.to, c68.to, c77.to]) (AV.fn (Fn.func (71 : Nat)) [] []) [I 1, I 4, AV.sl [I (↑x.length : Int)] (1 : Nat) Room.full] (H.mk [] [] []) = some (AV.bool false, H.mk [] [] []) ∧ (AV.bool false, H.mk [] [] []) = (AV.bool false, H.mk [] [] [])) (by kernel_rfl) ?_
    refine ⟨acall_b (acall_hit (c := c71o.to) (hY 1 4 x.length) _ rfl (k1 _)) a1, ?_⟩
    rfl
noncomputable def c66 : PCtr Try.prog := sctr ok66 (X := List Int × Room) (fun x => [ls x.1 x.2]) (fun x => lim x.1.length ∧ rok x.1 x.2) (fun x => .bool (stB x.1 200)) (by intro x y e _ _; simp [Int.natCast_inj] at e; simp [e]) (fun x => by simp [AV.bnds, AV.bnd, AV.wk, rm_wk_bnd]) (fun x => by first | rfl | (simp [AV.bnd, rm_wk_bnd]; done)  | (simp [AV.bnd, AV.bnds, rm_wk_bnd]; done) | simp [AV.bnd, AV.bnds, Room.bnd, rm_wk_bnd]) (fun x hx => ⟨_, _, _, .pure c71o (.pure c68 (.pure c77 (.nil))), r66 (x.1) (x.2).wk (by first | exact hx | (simp only [rok_wk]; exact hx) | (simp only [rok_wk, lst_wk]; exact hx) | (simp only [rok_wk, lst_wk, lsn_wk]; exact hx))⟩)
/-- the ways to choose j of q, as they are reckoned, and those to choose fewer than j -/
def ch (q : Int) : Nat → Int
  | 0 => 1
  | j + 1 => (ch q j * (q - (j : Int))).tdiv ((j : Int) + 1)
def wy (q : Int) : Nat → Int
  | 0 => 0
  | j + 1 => wy q j + ch q j
abbrev q30 (q : Int) : Prop := 0 ≤ q ∧ q ≤ 30
theorem ch_bd' : ∀ n : Nat, n < 31 → ∀ j : Nat, j < 5 → (0 ≤ ch n j ∧ ch n j ≤ 30000) ∧ 0 ≤ wy n j ∧ wy n j ≤ 30000 := by decide +kernel
theorem ch_bd {q : Int} (h : q30 q) {j : Nat} (hj : j < 5) : (0 ≤ ch q j ∧ ch q j ≤ 30000) ∧ 0 ≤ wy q j ∧ wy q j ≤ 30000 := by
  obtain ⟨n, rfl⟩ : ∃ n : Nat, q = n := ⟨q.toNat, by omega⟩
  exact ch_bd' n (by omega) j hj
theorem mul_bd {a b A B : Int} (ha : 0 ≤ a ∧ a ≤ A) (hb : 0 ≤ b ∧ b ≤ B) : 0 ≤ a * b ∧ a * b ≤ A * B :=
  ⟨Int.mul_nonneg ha.1 hb.1, Int.mul_le_mul ha.2 hb.2 hb.1 (by omega)⟩
theorem ch_st {q : Int} (h : q30 q) {j : Nat} (hj : j < 4) : IntKind.i64.wrap (ch q j * (q - (j : Int))) = ch q j * (q - (j : Int)) ∧ IntKind.i64.wrap ((ch q j * (q - (j : Int))).tdiv ((j : Int) + 1)) = ch q (j + 1) := by
  have h1 := (ch_bd h (j := j) (by omega)).1
  have h2 := (ch_bd h (j := j + 1) (by omega)).1
  have h3 : -(30000 * 100) ≤ ch q j * (q - (j : Int)) ∧ ch q j * (q - (j : Int)) ≤ 30000 * 100 := by
    by_cases c : 0 ≤ q - (j : Int)
    · have := mul_bd h1 (show 0 ≤ q - (j : Int) ∧ q - (j : Int) ≤ 100 by omega); omega
    · have := mul_bd h1 (show 0 ≤ -(q - (j : Int)) ∧ -(q - (j : Int)) ≤ 100 by omega)
      rw [Int.mul_neg] at this; omega
  exact ⟨wr _ (by omega) (by omega), wr (ch q (j + 1)) (by omega) (by omega)⟩
/-- a state's weight -/
def wt4 (a b c d q : Int) : Int := d * 1 + wy q 2 * c + wy q 3 * b + wy q 4 * a
theorem ok72 : FokM Try.prog none1 72 Try.f72 := ⟨mixed, by kernel_rfl, by kernel_rfl, by kernel_rfl, by kernel_rfl⟩
theorem r72 (a : Int) (b : Int) (c : Int) (d : Int) (q : Int) (hp : (b200 a ∧ b200 b ∧ b200 c ∧ b200 d) ∧ q30 q) : Body ⟨Try.prog, Sof (P := Try.prog) [], Pof (P := Try.prog) [], H.nil.base, 300⟩ none1 Try.f72 [a4 a b c d, I q] .nil (I (wt4 a b c d q), .nil) := by
  obtain ⟨⟨h1, h2, h3, h4⟩, hq⟩ := hp
  have w1 := ch_st hq (j := 1) (by omega)
  have w2 := ch_st hq (j := 2) (by omega)
  have w3 := ch_st hq (j := 3) (by omega)
  have m2 := mul_bd (ch_bd hq (j := 2) (by omega)).2 h3
  have m3 := mul_bd (ch_bd hq (j := 3) (by omega)).2 h2
  have m4 := mul_bd (ch_bd hq (j := 4) (by omega)).2 h1
  have b2 := (ch_bd hq (j := 2) (by omega)).2
  have b3 := (ch_bd hq (j := 3) (by omega)).2
  have b4 := (ch_bd hq (j := 4) (by omega)).2
  have w0 := ch_st hq (j := 0) (by omega)
  have c1 := (ch_bd hq (j := 1) (by omega)).1
  have c2 := (ch_bd hq (j := 2) (by omega)).1
  have c3 := (ch_bd hq (j := 3) (by omega)).1
  have ev0 : (1 * (q - 0)).tdiv 1 = ch q 1 := rfl
  have ev1 : (ch q 1 * (q - 1)).tdiv 2 = ch q 2 := rfl
  have ev2 : (ch q 2 * (q - 2)).tdiv 3 = ch q 3 := rfl
  have ev3 : (ch q 3 * (q - 3)).tdiv 4 = ch q 4 := rfl
  have ev4 : 1 + ch q 1 = wy q 2 := rfl
  have ev5 : wy q 2 + ch q 2 = wy q 3 := rfl
  have ev6 : wy q 3 + ch q 3 = wy q 4 := rfl
  have v2 : IntKind.i64.wrap (1 + ch q 1) = wy q 2 := wr (wy q 2) (by omega) (by omega)
  have v3 : IntKind.i64.wrap (wy q 2 + ch q 2) = wy q 3 := wr (wy q 3) (by omega) (by omega)
  have v4 : IntKind.i64.wrap (wy q 3 + ch q 3) = wy q 4 := wr (wy q 4) (by omega) (by omega)
  refine body_s ([Ans.o Orc.dflt, Ans.o (Orc.val 30 (I (ch q (1 : Nat))) H.nil), Ans.o Orc.dflt, Ans.o (Orc.val 14 (I (wy q (2 : Nat))) H.nil), Ans.o (Orc.val 30 (I (ch q (2 : Nat))) H.nil), Ans.o Orc.dflt, Ans.o (Orc.val 14 (I (wy q (3 : Nat))) H.nil), Ans.o (Orc.val 30 (I (ch q (3 : Nat))) H.nil), Ans.o Orc.dflt, Ans.o (Orc.val 14 (I (wy q (4 : Nat))) H.nil), Ans.o (Orc.val 30 (I (ch q (4 : Nat))) H.nil), Ans.o Orc.dflt]) (IntKind.i64.wrap (1 : Int) = (1 : Int) ∧ IntKind.i64.wrap (3 : Int) = (3 : Int) ∧ IntKind.i64.wrap (((0 : Int) + (1 : Int)) * d) = ((0 : Int) + (1 : Int)) * d ∧ IntKind.i64.wrap ((0 : Int) + ((0 : Int) + (1 : Int)) * d) = (0 : Int) + ((0 : Int) + (1 : Int)) * d ∧ IntKind.i64.wrap (q - (0 : Int)) = q - (0 : Int) ∧ IntKind.i64.wrap ((1 : Int) * (q - (0 : Int))) = (1 : Int) * (q - (0 : Int)) ∧ IntKind.i64.wrap (1 : Int) = (1 : Int) ∧ aBin Try.prog BinOp.quo (3 : Nat) (I ((1 : Int) * (q - (0 : Int)))) (I 1) = some (I (ch q (1 : Nat))) ∧ IntKind.i64.wrap (1 : Int) = (1 : Int) ∧ aBin Try.prog BinOp.add (3 : Nat) (I 1) (I (ch q (1 : Nat))) = some (I (wy q (2 : Nat))) ∧ IntKind.i64.wrap (2 : Int) = (2 : Int) ∧ IntKind.i64.wrap (wy q (2 : Nat) * c) = wy q (2 : Nat) * c ∧ IntKind.i64.wrap ((0 : Int) + ((0 : Int) + (1 : Int)) * d + wy q (2 : Nat) * c) = (0 : Int) + ((0 : Int) + (1 : Int)) * d + wy q (2 : Nat) * c ∧ IntKind.i64.wrap (q - ((0 : Int) + (1 : Int))) = q - ((0 : Int) + (1 : Int)) ∧ IntKind.i64.wrap (ch q (1 : Nat) * (q - ((0 : Int) + (1 : Int)))) = ch q (1 : Nat) * (q - ((0 : Int) + (1 : Int))) ∧ IntKind.i64.wrap (2 : Int) = (2 : Int) ∧ aBin Try.prog BinOp.quo (3 : Nat) (I (ch q (1 : Nat) * (q - ((0 : Int) + (1 : Int))))) (I 2) = some (I (ch q (2 : Nat))) ∧ IntKind.i64.wrap (2 : Int) = (2 : Int) ∧ aBin Try.prog BinOp.add (3 : Nat) (I (wy q (2 : Nat))) (I (ch q (2 : Nat))) = some (I (wy q (3 : Nat))) ∧ IntKind.i64.wrap (1 : Int) = (1 : Int) ∧ IntKind.i64.wrap (wy q (3 : Nat) * b) = wy q (3 : Nat) * b ∧ IntKind.i64.wrap ((0 : Int) + ((0 : Int) + (1 : Int)) * d + wy q (2 : Nat) * c + wy q (3 : Nat) * b) = (0 : Int) + ((0 : Int) + (1 : Int)) * d + wy q (2 : Nat) * c + wy q (3 : Nat) * b ∧ IntKind.i64.wrap (q - ((0 : Int) + (1 : Int) + (1 : Int))) = q - ((0 : Int) + (1 : Int) + (1 : Int)) ∧ IntKind.i64.wrap (ch q (2 : Nat) * (q - ((0 : Int) + (1 : Int) + (1 : Int)))) = ch q (2 : Nat) * (q - ((0 : Int) + (1 : Int) + (1 : Int))) ∧ IntKind.i64.wrap (3 : Int) = (3 : Int) ∧ aBin Try.prog BinOp.quo (3 : Nat) (I (ch q (2 : Nat) * (q - ((0 : Int) + (1 : Int) + (1 : Int))))) (I 3) = some (I (ch q (3 : Nat))) ∧ IntKind.i64.wrap (3 : Int) = (3 : Int) ∧ aBin Try.prog BinOp.add (3 : Nat) (I (wy q (3 : Nat))) (I (ch q (3 : Nat))) = some (I (wy q (4 : Nat))) ∧ IntKind.i64.wrap (0 : Int) = (0 : Int) ∧ IntKind.i64.wrap (wy q (4 : Nat) * a) = wy q (4 : Nat) * a ∧ IntKind.i64.wrap ((0 : Int) + ((0 : Int) + (1 : Int)) * d + wy q (2 : Nat) * c + wy q (3 : Nat) * b + wy q (4 : Nat) * a) = (0 : Int) + ((0 : Int) + (1 : Int)) * d + wy q (2 : Nat) * c + wy q (3 : Nat) * b + wy q (4 : Nat) * a ∧ IntKind.i64.wrap (q - ((0 : Int) + (1 : Int) + (1 : Int) + (1 : Int))) = q - ((0 : Int) + (1 : Int) + (1 : Int) + (1 : Int)) ∧ IntKind.i64.wrap (ch q (3 : Nat) * (q - ((0 : Int) + (1 : Int) + (1 : Int) + (1 : Int)))) = ch q (3 : Nat) * (q - ((0 : Int) + (1 : Int) + (1 : Int) + (1 : Int))) ∧ IntKind.i64.wrap (4 : Int) = (4 : Int) ∧ aBin Try.prog BinOp.quo (3 : Nat) (I (ch q (3 : Nat) * (q - ((0 : Int) + (1 : Int) + (1 : Int) + (1 : Int))))) (I 4) = some (I (ch q (4 : Nat))) ∧ IntKind.i64.wrap (4 : Int) = (4 : Int) ∧ (I ((0 : Int) + ((0 : Int) + (1 : Int)) * d + wy q (2 : Nat) * c + wy q (3 : Nat) * b + wy q (4 : Nat) * a), H.mk [] [] []) = (I (wt4 a b c d q), H.mk [] [] [])) (by kernel_rfl) ?_
  refine ⟨by first | exact w1.1 | exact w2.1 | exact w3.1 | exact wr _ (by omega) (by omega), ?_⟩
  refine ⟨by first | exact w1.1 | exact w2.1 | exact w3.1 | exact wr _ (by omega) (by omega), ?_⟩
  refine ⟨by first | exact w1.1 | exact w2.1 | exact w3.1 | exact wr _ (by omega) (by omega), ?_⟩
  refine ⟨by first | exact w1.1 | exact w2.1 | exact w3.1 | exact wr _ (by omega) (by omega), ?_⟩
  refine ⟨by first | exact w1.1 | exact w2.1 | exact w3.1 | exact wr _ (by omega) (by omega), ?_⟩
  refine ⟨by first | exact w1.1 | exact w2.1 | exact w3.1 | exact wr _ (by omega) (by omega), ?_⟩
  refine ⟨by first | exact w1.1 | exact w2.1 | exact w3.1 | exact wr _ (by omega) (by omega), ?_⟩
  refine ⟨by first | exact told_quo (by decide) w0.2 | exact told_quo (by decide) w1.2 | exact told_quo (by decide) w2.2 | exact told_quo (by decide) w3.2 | exact told_add v2 | exact told_add v3 | exact told_add v4, ?_⟩
  refine ⟨by first | exact w1.1 | exact w2.1 | exact w3.1 | exact wr _ (by omega) (by omega), ?_⟩
  refine ⟨by first | exact told_quo (by decide) w0.2 | exact told_quo (by decide) w1.2 | exact told_quo (by decide) w2.2 | exact told_quo (by decide) w3.2 | exact told_add v2 | exact told_add v3 | exact told_add v4, ?_⟩
  refine ⟨by first | exact w1.1 | exact w2.1 | exact w3.1 | exact wr _ (by omega) (by omega), ?_⟩
  refine ⟨by first | exact w1.1 | exact w2.1 | exact w3.1 | exact wr _ (by omega) (by omega), ?_⟩
  refine ⟨by first | exact w1.1 | exact w2.1 | exact w3.1 | exact wr _ (by omega) (by omega), ?_⟩
  refine ⟨by first | exact w1.1 | exact w2.1 | exact w3.1 | exact wr _ (by omega) (by omega), ?_⟩
  refine ⟨by first | exact w1.1 | exact w2.1 | exact w3.1 | exact wr _ (by omega) (by omega), ?_⟩
  refine ⟨by first | exact w1.1 | exact w2.1 | exact w3.1 | exact wr _ (by omega) (by omega), ?_⟩
  refine ⟨by first | exact told_quo (by decide) w0.2 | exact told_quo (by decide) w1.2 | exact told_quo (by decide) w2.2 | exact told_quo (by decide) w3.2 | exact told_add v2 | exact told_add v3 | exact told_add v4, ?_⟩
  refine ⟨by first | exact w1.1 | exact w2.1 | exact w3.1 | exact wr _ (by omega) (by omega), ?_⟩
  refine ⟨by first | exact told_quo (by decide) w0.2 | exact told_quo (by decide) w1.2 | exact told_quo (by decide) w2.2 | exact told_quo (by decide) w3.2 | exact told_add v2 | exact told_add v3 | exact told_add v4, ?_⟩
  refine ⟨by first | exact w1.1 | exact w2.1 | exact w3.1 | exact wr _ (by omega) (by omega), ?_⟩
  refine ⟨by first | exact w1.1 | exact w2.1 | exact w3.1 | exact wr _ (by omega) (by omega), ?_⟩
  refine ⟨by first | exact w1.1 | exact w2.1 | exact w3.1 | exact wr _ (by omega) (by omega), ?_⟩
  refine ⟨by first | exact w1.1 | exact w2.1 | exact w3.1 | exact wr _ (by omega) (by omega), ?_⟩
  refine ⟨by first | exact w1.1 | exact w2.1 | exact w3.1 | exact wr _ (by omega) (by omega), ?_⟩
  refine ⟨by first | exact w1.1 | exact w2.1 | exact w3.1 | exact wr _ (by omega) (by omega), ?_⟩
  refine ⟨by first | exact told_quo (by decide) w0.2 | exact told_quo (by decide) w1.2 | exact told_quo (by decide) w2.2 | exact told_quo (by decide) w3.2 | exact told_add v2 | exact told_add v3 | exact told_add v4, ?_⟩
  refine ⟨by first | exact w1.1 | exact w2.1 | exact w3.1 | exact wr _ (by omega) (by omega), ?_⟩
  refine ⟨by first | exact told_quo (by decide) w0.2 | exact told_quo (by decide) w1.2 | exact told_quo (by decide) w2.2 | exact told_quo (by decide) w3.2 | exact told_add v2 | exact told_add v3 | exact told_add v4, ?_⟩
  refine ⟨by first | exact w1.1 | exact w2.1 | exact w3.1 | exact wr _ (by omega) (by omega), ?_⟩
  refine ⟨by first | exact w1.1 | exact w2.1 | exact w3.1 | exact wr _ (by omega) (by omega), ?_⟩
  refine ⟨by first | exact w1.1 | exact w2.1 | exact w3.1 | exact wr _ (by omega) (by omega), ?_⟩
  refine ⟨by first | exact w1.1 | exact w2.1 | exact w3.1 | exact wr _ (by omega) (by omega), ?_⟩
  refine ⟨by first | exact w1.1 | exact w2.1 | exact w3.1 | exact wr _ (by omega) (by omega), ?_⟩
  refine ⟨by first | exact w1.1 | exact w2.1 | exact w3.1 | exact wr _ (by omega) (by omega), ?_⟩
  refine ⟨by first | exact told_quo (by decide) w0.2 | exact told_quo (by decide) w1.2 | exact told_quo (by decide) w2.2 | exact told_quo (by decide) w3.2 | exact told_add v2 | exact told_add v3 | exact told_add v4, ?_⟩
  refine ⟨by first | exact w1.1 | exact w2.1 | exact w3.1 | exact wr _ (by omega) (by omega), ?_⟩
  exact ileaf (by simp only [wt4]; omega)
noncomputable def c72 : PCtr Try.prog := sctr ok72 (X := Int × Int × Int × Int × Int) (fun x => [a4 x.1 x.2.1 x.2.2.1 x.2.2.2.1, I x.2.2.2.2]) (fun x => (b200 x.1 ∧ b200 x.2.1 ∧ b200 x.2.2.1 ∧ b200 x.2.2.2.1) ∧ q30 x.2.2.2.2) (fun x => I (wt4 x.1 x.2.1 x.2.2.1 x.2.2.2.1 x.2.2.2.2)) (by intro x y e _ _; simp [Int.natCast_inj] at e; simp [e]) (fun x => by simp [AV.bnds, AV.bnd, AV.wk, rm_wk_bnd]) (fun x => by first | rfl | (simp [AV.bnd, rm_wk_bnd]; done)  | (simp [AV.bnd, AV.bnds, rm_wk_bnd]; done) | simp [AV.bnd, AV.bnds, Room.bnd, rm_wk_bnd]) (fun x hx => ⟨_, _, _, .nil, r72 (x.1) (x.2.1) (x.2.2.1) (x.2.2.2.1) (x.2.2.2.2) hx⟩)
end Go.Proofs.Gss

