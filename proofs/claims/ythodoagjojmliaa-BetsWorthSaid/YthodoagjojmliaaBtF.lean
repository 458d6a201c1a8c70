/- Layer 9: the average score, and fractions in lowest terms, by the program. -/
import Derived.Test.YthodoagjojmliaaBtE
import Derived.KernelRfl
set_option linter.unusedSimpArgs false
set_option linter.unusedVariables false
set_option linter.unnecessarySimpa false
set_option maxHeartbeats 4000000
set_option maxRecDepth 100000
namespace Go.Proofs.Bts
open Go Go.VM

def avN (a : List Int) (D : Int) (b : List Int) (E : Int) : Int := 2 * pI a b a.length * D - pI a a a.length * E
def avD (D E : Int) : Int := D * D * E
theorem mul_b {x y X Y : Int} (h1 : 0 ≤ x ∧ x ≤ X) (h2 : 0 ≤ y ∧ y ≤ Y) : 0 ≤ x * y ∧ x * y ≤ X * Y := ⟨Int.mul_nonneg h1.1 h2.1, Int.mul_le_mul h1.2 h2.2 h2.1 (Int.le_trans h1.1 h1.2)⟩
/-- each in lowest terms -/
def spl (a : List Int) (D : Int) (j : Nat) : List Pr := (List.range j).map fun i => lw (ia a i) D
theorem spl_succ (a : List Int) (D : Int) (j : Nat) : spl a D (j + 1) = spl a D j ++ [(lwN (ia a j) D, lwD (ia a j) D)] := by simp [spl, List.range_succ]
theorem spl_len (a : List Int) (D : Int) (j : Nat) : (spl a D j).length = j := by simp [spl]
abbrev pg (L : List Pr) : AV := .sl (pairsA L) L.length (rmz 2 L)
abbrev h71 (a : List Int) (r : Room) (D : Int) (L : List Pr) : H := ⟨[[ls a r, I D]], tkz L, []⟩
abbrev o71 (a : List Int) (r : Room) (D : Int) : List Out := [.mk Unit (.exit 0) [3] (fun _ => True) (fun _ => [pg (spl a D a.length)]) (fun _ => h71 a r D (spl a D a.length)) (fun _ => [])]
theorem simp71 : allSimpleM none1 (loopAt Try.f71 0) = true := by kernel_rfl
abbrev pL (a : List Int) (r : Room) (D : Int) : Prop := (a.length ≤ 1000 ∧ rok a r) ∧ (∀ i, i < a.length → -9223372036854775807 ≤ ia a i ∧ ia a i ≤ 9223372036854775807) ∧ 1 ≤ D ∧ D ≤ 9223372036854775807
theorem lp71 (a : List Int) (r : Room) (D : Int) (hp : pL a r D) :
    LoopS (En6 [c87.to]) (loopAt Try.f71 0) 22 [1, 3, 7, 8, 9] [.ptr 0 0, .sl [] 0 .nil, ls a r, I a.length, I 0] (h71 a r D []) (o71 a r D) := by
  have hR : Rests (En6 [c87.to]) none1 := rests mixed (.pure _ .nil)
  obtain ⟨⟨h6, hr0⟩, hb, hD⟩ := hp
  refine loop_s hR simp71 none (by intro _ h; cases h) (fun j vs h => h = h71 a r D (spl a D j) ∧ vs = [.ptr 0 0, pg (spl a D j), ls a r, I a.length, I (j : Nat)]) a.length ⟨rfl, rfl⟩ (by intro _ h; cases h) ?_
  rintro j vs h hj ⟨rfl, rfl⟩
  by_cases hz : (j : Int) < a.length
  · have hz' : j < a.length := by omega
    have hr := rok_idx hr0 hz'
    have ev0 := wj1 (j := j) (by omega)
    have p87 : (-9223372036854775807 ≤ ia a j ∧ ia a j ≤ 9223372036854775807) ∧ 1 ≤ D ∧ D ≤ 9223372036854775807 := ⟨hb j hz', hD⟩
    have hlen := spl_len a D j
    have hap := app_pr (P := Try.prog) (t := 23) (by kernel_rfl) (l := spl a D j) (x := lwN (ia a j) D) (y := lwD (ia a j) D) (bs := [[ls a r, I D]]) (by omega)
    rw [← spl_succ] at hap
    refine ⟨[Ans.o (Orc.b true), Ans.o (Orc.val 11 (AV.cptr (ints (List.drop j a))) H.nil), Ans.o (Orc.val 12 (I (a.getD j i0)) H.nil), Ans.o (Orc.val 17 (AV.agg [I (lwN (a.getD j i0) D), I (lwD (a.getD j i0) D)]) (H.mk [[AV.sl (ints a) a.length r, I D]] (tkz (spl a D j)) [])), Ans.o (Orc.val 19 (AV.sl (pairsA (spl a D (j + (1 : Nat)))) (spl a D (j + (1 : Nat))).length (rmz (2 : Nat) (spl a D (j + (1 : Nat))))) (H.mk [[ls a r, I D]] (tkz (spl a D (j + (1 : Nat)))) [])), Ans.o (Orc.val 20 (I (↑(j + (1 : Nat)) : Int)) H.nil)], fun u => of_eq ((↑j : Int) < (↑a.length : Int) ∧ aIndexAddr Try.prog (36 : Nat) (AV.sl (ints a) a.length r) (I (↑j : Int)) = some (AV.cptr (ints (List.drop j a))) ∧ aLoad Try.prog (3 : Nat) (ints (List.drop j a)) = some (I (a.getD j i0)) ∧ aCall (Sof [c87.to]) (AV.fn (Fn.func (87 : Nat)) [] []) [I (a.getD j i0), I D] (H.mk [[AV.sl (ints a) a.length r, I D]] (tkz (spl a D j)) []) = some (AV.agg [I (lwN (a.getD j i0) D), I (lwD (a.getD j i0) D)], H.mk [[AV.sl (ints a) a.length r, I D]] (tkz (spl a D j)) []) ∧ aAppend Try.prog (23 : Nat) (23 : Nat) (AV.sl (pairsA (spl a D j)) (spl a D j).length (rmz (2 : Nat) (spl a D j))) (AV.sl [I (lwN (a.getD j i0) D), I (lwD (a.getD j i0) D)] (1 : Nat) Room.full) (H.mk [[AV.sl (ints a) a.length r, I D]] (tkz (spl a D j)) []) = some (AV.sl (pairsA (spl a D (j + (1 : Nat)))) (spl a D (j + (1 : Nat))).length (rmz (2 : Nat) (spl a D (j + (1 : Nat)))), H.mk [[AV.sl (ints a) a.length r, I D]] (tkz (spl a D (j + (1 : Nat)))) []) ∧ aBin Try.prog BinOp.add (3 : Nat) (I (↑j : Int)) (I 1) = some (I (↑(j + (1 : Nat)) : Int)) ∧ (22 : Nat) = (22 : Nat) ∧ j < a.length ∧ Keep (H.mk [[AV.sl (ints a) a.length r, I D]] (tkz (spl a D (j + (1 : Nat)))) [] = H.mk [[AV.sl (ints a) a.length r, I D]] (tkz (spl a D (j + (1 : Nat)))) [] ∧ [AV.ptr 0 0, AV.sl (pairsA (spl a D (j + (1 : Nat)))) (spl a D (j + (1 : Nat))).length (rmz (2 : Nat) (spl a D (j + (1 : Nat)))), AV.sl (ints a) a.length r, I (↑a.length : Int), I (↑(j + (1 : Nat)) : Int)] = [AV.ptr 0 0, AV.sl (pairsA (spl a D (j + (1 : Nat)))) (spl a D (j + (1 : Nat))).length (rmz (2 : Nat) (spl a D (j + (1 : Nat)))), AV.sl (ints a) a.length r, I (↑a.length : Int), I (↑(j + (1 : Nat)) : Int)])) (by kernel_rfl) ?_⟩
    refine ⟨by first | with_reducible assumption | omega | assumption, ?_⟩
    refine ⟨by first | exact ix_ints (by kernel_rfl) (by omega) (by assumption) | exact ix_ints (by kernel_rfl) (by omega) (rok_idx (by assumption) (by omega)), ?_⟩
    refine ⟨by first | exact ld_ints (by kernel_rfl) (by kernel_rfl) (by omega) | exact ldm_ints (by kernel_rfl) (by kernel_rfl) (by first | omega | (simp; omega)), ?_⟩
    refine ⟨acall_hit (c := c87.to) (ia a j, D) _ rfl p87, ?_⟩
    refine ⟨hap, ?_⟩
    refine ⟨told_add (by with_reducible assumption), ?_⟩
    refine ⟨by first | with_reducible assumption | omega | assumption, ?_⟩
    refine ⟨by first | with_reducible assumption | omega | assumption, ?_⟩
    exact ⟨rfl, rfl⟩
  · have hz : (a.length : Int) ≤ j := by omega
    have e : j = a.length := by omega
    subst e
    refine ⟨[Ans.o (Orc.b false)], fun u => of_eq ((↑a.length : Int) ≤ (↑a.length : Int) ∧ (22 : Nat) = (22 : Nat) ∧ hits [Out.mk Unit (AX.exit (0 : Nat)) [(3 : Nat)] (fun x => True) (fun x => [pg (spl a D a.length)]) (fun x => h71 a r D (spl a D a.length)) fun x => []] (AX.exit (0 : Nat)) [u (0 : Nat), AV.ptr 0 0, u (2 : Nat), AV.sl (pairsA (spl a D a.length)) (spl a D a.length).length (rmz (2 : Nat) (spl a D a.length)), u (4 : Nat), u (5 : Nat), u (6 : Nat), AV.sl (ints a) a.length r, I (↑a.length : Int), I (↑a.length : Int), AV.bool false, u (11 : Nat), u (12 : Nat), u (13 : Nat), u (14 : Nat), u (15 : Nat), u (16 : Nat), u (17 : Nat), u (18 : Nat), u (19 : Nat), u (20 : Nat), u (21 : Nat)] (H.mk [[AV.sl (ints a) a.length r, I D]] (tkz (spl a D a.length)) [])) (by kernel_rfl) ?_⟩
    refine ⟨by first | with_reducible assumption | omega | assumption, ?_⟩
    refine ⟨by first | with_reducible assumption | omega | assumption, ?_⟩
    exact .inl ⟨(), trivial, rfl, rfl, rfl⟩
theorem leave_pg (bs : List (List AV)) (L : List Pr) : leave ⟨0, 0, 0⟩ (pg L) ⟨bs, tkz L, []⟩ = (pg L, ⟨[], tkz L, []⟩) := by
  cases L with
  | nil => rfl
  | cons x l =>
    show leave ⟨0, 0, 0⟩ (.sl (pairsA (x :: l)) (x :: l).length (.tok 0 2)) ⟨bs, [(x :: l).length], []⟩ = (.sl (pairsA (x :: l)) (x :: l).length (.tok 0 2), ⟨[], [(x :: l).length], []⟩)
    generalize (x :: l) = m
    simp [leave, AV.bnd, frz, Room.bnd, retok, frz_pairs]
theorem rmz_bnd (L : List Pr) : (rmz 2 L).wk.bnd 0 = true := by cases L <;> rfl
theorem ok71 : FokM Try.prog none1 71 Try.f71 := ⟨mixed, by kernel_rfl, by kernel_rfl, by kernel_rfl, by kernel_rfl⟩
theorem r71 (a : List Int) (r : Room) (D : Int) (hp : pL a r D) : Body (En6 [c87.to]) none1 Try.f71 [fz a r D] .nil (pg (spl a D a.length), ⟨[], tkz (spl a D a.length), []⟩) := by
  have hl := lp71 a r D hp
  refine body_s ([Ans.loop [(1 : Nat), (3 : Nat), (7 : Nat), (8 : Nat), (9 : Nat)] [Out.mk Unit (AX.exit (0 : Nat)) [(3 : Nat)] (fun x => True) (fun x => [pg (spl a D a.length)]) (fun x => h71 a r D (spl a D a.length)) fun y => []]]) (LoopS (Env.mk Try.prog (Sof [c87.to]) (Pof (P := Try.prog) []) H.nil.base (300 : Nat)) (loopAt Try.f71 (0 : Nat)) (22 : Nat) [(1 : Nat), (3 : Nat), (7 : Nat), (8 : Nat), (9 : Nat)] [AV.ptr 0 0, AV.sl [] (0 : Nat) Room.nil, AV.sl (ints a) a.length r, I (↑a.length : Int), I 0] (H.mk [[AV.sl (ints a) a.length r, I D]] [] []) [Out.mk Unit (AX.exit (0 : Nat)) [(3 : Nat)] (fun x => True) (fun x => [pg (spl a D a.length)]) (fun x => h71 a r D (spl a D a.length)) fun y => []] ∧ (∀ (y : Unit), True → ∀ (u : Nat → AV), leave (Base.mk H.nil.blk.length H.nil.toks.length H.nil.maps.length) (AV.sl (pairsA (spl a D a.length)) (spl a D a.length).length (rmz (2 : Nat) (spl a D a.length))) (H.mk [[AV.sl (ints a) a.length r, I D]] (tkz (spl a D a.length)) []) = (AV.sl (pairsA (spl a D a.length)) (spl a D a.length).length (rmz (2 : Nat) (spl a D a.length)), H.mk [] (tkz (spl a D a.length)) [])) ∧ True) (by kernel_rfl) ?_
  refine ⟨hl, ?_⟩
  refine And.intro ?_ ?_
  · skip
    intro y
    intro w1
    intro u
    exact leave_pg _ _
  · skip
    trivial
noncomputable def c71 : PCtr Try.prog := slctr ok71 (X := List Int × Rm × Int) (fun x => [fz x.1 x.2.1.wk x.2.2]) (fun x => pL x.1 x.2.1 x.2.2) (fun x => pz (spl x.1 x.2.2 x.1.length) (rmz 2 (spl x.1 x.2.2 x.1.length)).wk)
  (by
    rintro ⟨a, r, D⟩ ⟨b, s, E⟩ e _ _
    obtain ⟨h1, h2⟩ := fz_det (List.cons.inj e).1
    simp only at h1 h2
    rw [h1, h2]) (fun x => by simp [AV.bnds, AV.bnd, AV.wk, rm_wk_bnd]) (fun x => by simp [AV.bnd, rmz_bnd])
  (fun x hx => ⟨_, _, _, _, _, .pure _ .nil, r71 x.1 x.2.1.wk x.2.2 ⟨⟨hx.1.1, by simpa using hx.1.2⟩, hx.2⟩, by simp [AV.plain, plains_pairs], by simp [AV.wkd, wkds_pairs]⟩)
end Go.Proofs.Bts

