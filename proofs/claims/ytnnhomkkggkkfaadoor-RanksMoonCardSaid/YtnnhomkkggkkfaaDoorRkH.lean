/- Layer 2: slices that are the same; the program is awake. -/
import Derived.Test.YtnnhomkkggkkfaaDoorRkG
import Derived.KernelRfl
set_option linter.unusedSimpArgs false
set_option linter.unusedVariables false
set_option linter.unnecessarySimpa false
set_option maxHeartbeats 4000000
set_option maxRecDepth 100000
namespace Go.Proofs.Rnk
open Go Go.VM
open Go.Proofs.Sur (andn andn_bit andn_le i_wrap i_and i_or i_andn i_shl i_shr bit_01)

abbrev o22 : List Out := [.mk Unit .ret [4] (fun _ => False) (fun _ => [.bool false]) (fun _ => .nil) (fun _ => []), .mk Unit (.exit 0) [] (fun _ => True) (fun _ => []) (fun _ => .nil) (fun _ => [])]
theorem simp22 : allSimpleM none1 (loopAt Tryd.f22 0) = true := by kernel_rfl
theorem lp22 (l : List Int) (r1 r2 : Room) (h0 : lim l.length) (h1 : rok l r1) (h2 : rok l r2) :
    LoopS (En6 []) (loopAt Tryd.f22 0) 26 [0, 1, 12, 13] [ls l r1, ls l r2, I l.length, I 0] .nil o22 := by
  have hR : Rests (En6 []) none1 := rests mixed .nil
  refine loop_s hR simp22 none (by intro _ h; cases h) (fun j vs h => h = .nil ∧ vs = [ls l r1, ls l r2, I l.length, I j]) l.length ⟨rfl, rfl⟩ (by intro _ h; cases h) ?_
  rintro j vs h hj ⟨rfl, rfl⟩
  by_cases hz : (j : Int) < l.length
  · have hz' : j < l.length := by omega
    have hr1 := rok_idx h1 hz'
    have hr2 := rok_idx h2 hz'
    have he : l.getD j i0 = l.getD j i0 := rfl
    refine ⟨[Ans.o (Orc.b true), Ans.o (Orc.val 18 (AV.cptr (ints (List.drop j l))) H.nil), Ans.o (Orc.val 19 (I (l.getD j i0)) H.nil), Ans.o (Orc.val 22 (AV.cptr (ints (List.drop j l))) H.nil), Ans.o (Orc.val 23 (I (l.getD j i0)) H.nil), Ans.o (Orc.b false)], fun u => of_eq ((↑j : Int) < (↑l.length : Int) ∧ aIndexAddr Tryd.prog 22 (ls l r1) (I (↑j : Int)) = some (AV.cptr (ints (List.drop j l))) ∧ aLoad Tryd.prog 3 (ints (List.drop j l)) = some (I (l.getD j i0)) ∧ aIndexAddr Tryd.prog 22 (ls l r2) (I (↑j : Int)) = some (AV.cptr (ints (List.drop j l))) ∧ aLoad Tryd.prog 3 (ints (List.drop j l)) = some (I (l.getD j i0)) ∧ l.getD j i0 = l.getD j i0 ∧ IntKind.i64.wrap ((↑j : Int) + (1 : Int)) = (↑j : Int) + (1 : Int) ∧ (26 : Nat) = (26 : Nat) ∧ j < l.length ∧ Keep (H.mk [] [] [] = H.mk [] [] [] ∧ [ls l r1, ls l r2, I (↑l.length : Int), I ((↑j : Int) + (1 : Int))] = [ls l r1, ls l r2, I (↑l.length : Int), I (↑(j + (1 : Nat)) : Int)])) (by kernel_rfl) ?_⟩
    refine ⟨by first | with_reducible assumption | omega | assumption, ?_⟩
    refine ⟨by first | exact ix_ints (by kernel_rfl) (by omega) hr1 | exact ix_ints (by kernel_rfl) (by omega) hr2, ?_⟩
    refine ⟨by first | exact ld_ints (by kernel_rfl) (by kernel_rfl) (by omega) | exact ldm_ints (by kernel_rfl) (by kernel_rfl) (by first | omega | (simp; omega)), ?_⟩
    refine ⟨by first | exact ix_ints (by kernel_rfl) (by omega) hr1 | exact ix_ints (by kernel_rfl) (by omega) hr2, ?_⟩
    refine ⟨by first | exact ld_ints (by kernel_rfl) (by kernel_rfl) (by omega) | exact ldm_ints (by kernel_rfl) (by kernel_rfl) (by first | omega | (simp; omega)), ?_⟩
    refine ⟨by first | with_reducible assumption | omega | assumption, ?_⟩
    refine ⟨wr _ (by omega) (by omega), ?_⟩
    refine ⟨by first | with_reducible assumption | omega | assumption, ?_⟩
    refine ⟨by first | with_reducible assumption | omega | assumption, ?_⟩
    exact ⟨rfl, rfl⟩
  · have hz : (l.length : Int) ≤ j := by omega
    have e : j = l.length := by omega
    subst e
    refine ⟨[Ans.o (Orc.b false)], fun u => of_eq ((↑l.length : Int) ≤ (↑l.length : Int) ∧ (26 : Nat) = (26 : Nat) ∧ hits [Out.mk Unit AX.ret [4] (fun x => False) (fun x => [AV.bool false]) (fun x => H.nil) fun x => [], Out.mk Unit (AX.exit 0) [] (fun x => True) (fun x => []) (fun x => H.nil) fun x => []] (AX.exit 0) [ls l r1, ls l r2, u (2 : Nat), u (3 : Nat), u (4 : Nat), u (5 : Nat), u (6 : Nat), u (7 : Nat), u (8 : Nat), u (9 : Nat), u (10 : Nat), u (11 : Nat), I (↑l.length : Int), I (↑l.length : Int), AV.bool false, u (15 : Nat), u (16 : Nat), u (17 : Nat), u (18 : Nat), u (19 : Nat), u (20 : Nat), u (21 : Nat), u (22 : Nat), u (23 : Nat), u (24 : Nat), u (25 : Nat)] (H.mk [] [] [])) (by kernel_rfl) ?_⟩
    refine ⟨by first | with_reducible assumption | omega | assumption, ?_⟩
    refine ⟨by first | with_reducible assumption | omega | assumption, ?_⟩
    exact .inr (.inl ⟨(), trivial, rfl, rfl, rfl⟩)
theorem ok22 : FokM Tryd.prog none1 22 Tryd.f22 := ⟨mixed, by kernel_rfl, by kernel_rfl, by kernel_rfl, by kernel_rfl⟩
theorem r22 (l : List Int) (r1 r2 : Room) (h0 : lim l.length) (h1 : rok l r1) (h2 : rok l r2) : Body (En6 []) none1 Tryd.f22 [ls l r1, ls l r2] .nil (.bool true, .nil) := by
  have he : (l.length : Int) = l.length := rfl
  refine body_s ([Ans.o (Orc.b false), Ans.loop [0, 1, 12, 13] [Out.mk Unit AX.ret [4] (fun x => False) (fun x => [AV.bool false]) (fun x => H.nil) fun y => [], Out.mk Unit (AX.exit 0) [] (fun x => True) (fun x => []) (fun x => H.nil) fun y => []]]) ((↑l.length : Int) = (↑l.length : Int) ∧ LoopS (Env.mk Tryd.prog (Sof (P := Tryd.prog) []) (Pof (P := Tryd.prog) []) H.nil.base (300 : Nat)) (loopAt Tryd.f22 0) 26 [0, 1, 12, 13] [ls l r1, ls l r2, I (↑l.length : Int), I 0] (H.mk [] [] []) [Out.mk Unit AX.ret [4] (fun x => False) (fun x => [AV.bool false]) (fun x => H.nil) fun y => [], Out.mk Unit (AX.exit 0) [] (fun x => True) (fun x => []) (fun x => H.nil) fun y => []] ∧ (∀ (y : Unit), False → ∀ (u : Nat → AV), (AV.bool false, H.mk [] [] []) = (AV.bool true, H.mk [] [] [])) ∧ (∀ (y : Unit), True → ∀ (u : Nat → AV), (AV.bool true, H.mk [] [] []) = (AV.bool true, H.mk [] [] [])) ∧ True) (by kernel_rfl) ?_
  refine ⟨by first | with_reducible assumption | omega | assumption, ?_⟩
  refine ⟨lp22 l r1 r2 h0 h1 h2, ?_⟩
  refine And.intro ?_ ?_
  · skip
    intro y
    intro w1
    intro u
    first | rfl | (exfalso; assumption)
  · skip
    refine And.intro ?_ ?_
    · skip
      intro y
      intro w1
      intro u
      first | rfl | (exfalso; assumption)
    · skip
      trivial
noncomputable def c22 : PCtr Tryd.prog := sctr ok22 (X := List Int × Room × List Int × Room) (fun x => [ls x.1 x.2.1, ls x.2.2.1 x.2.2.2]) (fun x => x.1 = x.2.2.1 ∧ lim x.1.length ∧ rok x.1 x.2.1 ∧ rok x.2.2.1 x.2.2.2) (fun _ => .bool true)
  (by intro x y e _ _; rfl) (fun x => by simp [AV.bnds, AV.bnd, AV.wk, rm_wk_bnd]) (fun _ => rfl) (fun x hx => by
    obtain ⟨l, r1, m, r2⟩ := x
    obtain ⟨e, h0, h1, h2⟩ := hx
    simp only at e h0 h1 h2
    subst e
    exact ⟨_, _, _, .nil, r22 l r1.wk r2.wk h0 (by simpa using h1) (by simpa using h2)⟩)



theorem k64A : CallOk Tryd.prog 64 [T01, I 2, .fn (.func 65) [] []] .nil (.tup [.sl [I 1, I 0] 2 .no, .bool true]) .nil := @CallOk.up wrI instInhabitedGlobs (fun _ => rfl) _ _ _ _ _ _ k64
noncomputable def c64z : PCtr Tryd.prog where
  f := 64
  X := Unit
  args _ := [T01, I 2, .fn (.func 65) [] []]
  pre _ := True
  v _ := .tup [.sl [I 1, I 0] 2 .no, .bool true]
  det _ _ _ _ _ := rfl
  ok _ _ := ⟨ok64.call, fun h => pure_call k64A rfl rfl h⟩
noncomputable def c56z : PCtr Tryd.prog where
  f := 56
  X := Unit
  args _ := [T01]
  pre _ := True
  v _ := .bool true
  det _ _ _ _ _ := rfl
  ok _ _ := k56
theorem ok28 : FokM Tryd.prog none1 28 Tryd.f28 := ⟨mixed, by kernel_rfl, by kernel_rfl, by kernel_rfl, by kernel_rfl⟩
theorem r28z : Body (En6 [c56z.to, c64z.to]) none1 Tryd.f28 [T01] .nil (.tup [.sl [I 1, I 0] 2 .no, I 0], .nil) := by
  refine body_s ([Ans.o (Orc.val 7 (AV.bool true) (H.mk [] [] [])), Ans.o (Orc.val 13 (AV.tup [AV.sl [I 1, I 0] (2 : Nat) Room.no, AV.bool true]) (H.mk [] [] []))]) (aCall (Sof [c56z.to, c64z.to]) (AV.fn (Fn.func 56) [] []) [AV.sl [I 0, I 1] (2 : Nat) Room.no] (H.mk [] [] []) = some (AV.bool true, H.mk [] [] []) ∧ aCall (Sof [c56z.to, c64z.to]) (AV.fn (Fn.func 64) [] []) [AV.sl [I 0, I 1] (2 : Nat) Room.no, I 2, AV.fn (Fn.func 65) [] []] (H.mk [] [] []) = some (AV.tup [AV.sl [I 1, I 0] (2 : Nat) Room.no, AV.bool true], H.mk [] [] []) ∧ (AV.tup [AV.sl [I 1, I 0] (2 : Nat) Room.no, I 0], H.mk [] [] []) = (AV.tup [AV.sl [I 1, I 0] (2 : Nat) Room.no, I 0], H.mk [] [] [])) (by kernel_rfl) ?_
  refine ⟨acall_hit (c := c56z.to) () _ rfl trivial, ?_⟩
  refine ⟨acall_hit (c := c64z.to) () _ rfl trivial, ?_⟩
  first | with_reducible rfl | (refine bleaf_t ?_; omega) | (refine bleaf_f ?_; omega) | (refine ileaf ?_; omega) | rfl | (exfalso; omega)
noncomputable def c28z : PCtr Tryd.prog where
  f := 28
  X := Unit
  args _ := [.sl [I 0, I 1] 2 .full]
  pre _ := True
  v _ := .tup [.sl [I 1, I 0] 2 .no, I 0]
  det _ _ _ _ _ := rfl
  ok _ _ := ⟨ok28.call, fun h => CallOk.wk (args := [.sl [I 0, I 1] 2 .full]) (pure_call (r28z.run ok28 (.pure _ (.pure _ .nil)) rfl) rfl rfl h)⟩
noncomputable def c22z : PCtr Tryd.prog where
  f := 22
  X := Unit
  args _ := [.sl [I 1, I 0] 2 .no, .sl [I 1, I 0] 2 .full]
  pre _ := True
  v _ := .bool true
  det _ _ _ _ _ := rfl
  ok _ _ := c22.ok ([1, 0], .no, [1, 0], .full) ⟨rfl, by decide, fun _ => by decide, fun _ => by decide⟩
theorem ok24 : FokM Tryd.prog none1 24 Tryd.f24 := ⟨mixed, by kernel_rfl, by kernel_rfl, by kernel_rfl, by kernel_rfl⟩
theorem r24  (hp : True) : Body ⟨Tryd.prog, Sof (P := Tryd.prog) [c28z.to, c22z.to], Pof (P := Tryd.prog) [], H.nil.base, 300⟩ none1 Tryd.f24 [] .nil (.bool true, .nil) := by
  refine body_s ([Ans.o (Orc.val 5 (AV.tup [AV.sl [I 1, I 0] (2 : Nat) Room.no, I 0]) (H.mk [] [] [])), Ans.o Orc.dflt, Ans.o (Orc.val 13 (AV.bool true) (H.mk [] [] []))]) (aCall (Sof [c28z.to, c22z.to]) (AV.fn (Fn.func 28) [] []) [AV.sl [I 0, I 1] (2 : Nat) Room.full] (H.mk [] [] []) = some (AV.tup [AV.sl [I 1, I 0] (2 : Nat) Room.no, I 0], H.mk [] [] []) ∧ aCall (Sof [c28z.to, c22z.to]) (AV.fn (Fn.func 22) [] []) [AV.sl [I 1, I 0] (2 : Nat) Room.no, AV.sl [I 1, I 0] (2 : Nat) Room.full] (H.mk [] [] []) = some (AV.bool true, H.mk [] [] []) ∧ (AV.bool true, H.mk [] [] []) = (AV.bool true, H.mk [] [] [])) (by kernel_rfl) ?_
  refine ⟨acall_hit (c := c28z.to) () _ rfl trivial, ?_⟩
  refine ⟨acall_hit (c := c22z.to) () _ rfl trivial, ?_⟩
  first | with_reducible rfl | (refine bleaf_t ?_; omega) | (refine bleaf_f ?_; omega) | (refine ileaf ?_; omega) | rfl | (exfalso; omega)
noncomputable def c24 : PCtr Tryd.prog := sctr ok24 (X := Unit) (fun x => []) (fun x => True) (fun x => .bool true) (by intro x y e _ _; rfl) (fun _ => rfl) (fun x => by first | rfl | (simp [AV.bnd, rm_wk_bnd]; done)  | (simp [AV.bnd, AV.bnds, rm_wk_bnd]; done) | simp [AV.bnd, AV.bnds, Room.bnd, rm_wk_bnd]) (fun x hx => ⟨_, _, _, .pure c28z (.pure c22z (.nil)), r24  hx⟩)
end Go.Proofs.Rnk

