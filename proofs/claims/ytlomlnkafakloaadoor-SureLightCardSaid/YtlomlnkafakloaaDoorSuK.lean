/- Layer 5: the reference: graphs, how many words, near. -/
import Derived.Test.YtlomlnkafakloaaDoorSuG
import Derived.KernelRfl
set_option linter.unusedSimpArgs false
set_option linter.unusedVariables false
set_option linter.unnecessarySimpa false
set_option maxHeartbeats 4000000
set_option maxRecDepth 100000
namespace Go.Proofs.Sur
open Go Go.VM

abbrev q4 (g : List Int) (k : Nat) : Prop := q1 g k ∧ bi (at_ g k) k = false
abbrev q5 (g : List Int) (k : Nat) : Prop := ∀ j, j < k → bi (at_ g k) j = bi (at_ g j) k
abbrev q6 (g : List Int) (k : Nat) : Prop := q4 g k ∧ q5 g k
theorem gr_iff {g : List Int} : Gr g ↔ sz g ∧ ∀ k, k < g.length → q6 g k := by
  constructor
  · rintro ⟨h1, h2, h3⟩
    exact ⟨h1, fun k hk => ⟨⟨h2 k hk, (h3 k hk k hk).2 rfl⟩, fun j hj => (h3 k hk j (by omega)).1⟩⟩
  · rintro ⟨h1, h2⟩
    refine ⟨h1, fun i hi => (h2 i hi).1.1, fun i hi j hj => ⟨?_, fun e => by subst e; exact (h2 i hi).1.2⟩⟩
    rcases Nat.lt_trichotomy i j with h | h | h
    · exact ((h2 j hj).2 i h).symm
    · subst h; rfl
    · exact (h2 i hi).2 j h
abbrev o29i (g : List Int) (r : Room) (i : Nat) : List Out :=
  [.mk Unit .ret [2] (fun _ => ¬ q5 g i) (fun _ => [.bool false]) (fun _ => .nil) (fun _ => []), .mk Unit (.exit 2) [0, 14, 15, 16] (fun _ => q5 g i) (fun _ => [ls g r, ls g r, I g.length, I i]) (fun _ => .nil) (fun _ => [])]
theorem i_bitv {x : Int} {n : Nat} (h0 : 0 ≤ x) (h : x < 64) (hn : n ≤ 64) (b : Bool) (hb : bi x n = b) :
    x.fdiv (2 ^ min ((n : Int)).toNat IntKind.i64.bits) = ((x.toNat >>> n : Nat) : Int) ∧ IntKind.i64.wrap ((BitVec.ofInt IntKind.i64.bits ((x.toNat >>> n : Nat) : Int) &&& BitVec.ofInt IntKind.i64.bits 1).toNat : Int) = ((b.toNat : Nat) : Int) := by
  obtain ⟨a, rfl⟩ : ∃ a : Nat, x = a := ⟨x.toNat, by omega⟩
  simp only [bi, Int.toNat_natCast] at *
  refine ⟨i_shr hn, ?_⟩
  rw [i_bit (by omega), hb]
theorem simp29i : allSimpleM none1 (loopAt Tryd.f29 1) = true := by kernel_rfl
theorem lp29i (g : List Int) (r : Room) (h1 : sz g) (h2 : rok g r) (i : Nat) (hi : i < g.length) (hq : ∀ k, k ≤ i → q1 g k) :
    LoopS (En6 []) (loopAt Tryd.f29 1) 55 [0, 3, 4, 14, 15, 16, 37, 38] [ls g r, I i, I (at_ g i), ls g r, I g.length, I i, I i, I 0] .nil (o29i g r i) := by
  have hR : Rests (En6 []) none1 := rests mixed .nil
  have h64 := pw_64 h1.2
  have hl := h1.2
  refine loop_s hR simp29i none (by intro _ h; cases h) (fun j vs h => h = .nil ∧ vs = [ls g r, I i, I (at_ g i), ls g r, I g.length, I i, I i, I j] ∧ ∀ k, k < j → bi (at_ g i) k = bi (at_ g k) i) i ⟨rfl, rfl, fun k hk => absurd hk (by omega)⟩ (by intro _ h; cases h) ?_
  rintro j vs h hj ⟨rfl, rfl, ha⟩
  by_cases hz : (j : Int) < i
  · have hz' : j < g.length := by omega
    have hr := rok_idx h2 hz'
    have b1 := hq i (Nat.le_refl i)
    have b2 := hq j (by omega)
    cases c1 : bi (at_ g i) j
    · obtain ⟨ev0, ev1⟩ := i_bitv b1.1 (by omega) (show j ≤ 64 by omega) false c1
      have ev1 : _ = (0 : Int) := ev1
      cases c2 : bi (at_ g j) i
      · obtain ⟨ev2, ev3⟩ := i_bitv b2.1 (by omega) (show i ≤ 64 by omega) false c2
        have ev3 : _ = (0 : Int) := ev3
        have hk := all_succ (q := fun k => bi (at_ g i) k = bi (at_ g k) i) ha (c1.trans c2.symm)
        refine ⟨[Ans.o (Orc.b true), Ans.o (Orc.val 43 (I (↑((at_ g i).toNat >>> j) : Int)) H.nil), Ans.o (Orc.val 44 (I (↑false.toNat : Int)) H.nil), Ans.o (Orc.val 47 (AV.cptr (ints (List.drop j g))) H.nil), Ans.o (Orc.val 48 (I (g.getD j i0)) H.nil), Ans.o (Orc.val 50 (I (↑((at_ g j).toNat >>> i) : Int)) H.nil), Ans.o (Orc.val 51 (I (↑false.toNat : Int)) H.nil), Ans.o Orc.dflt], fun u => of_eq ((↑j : Int) < (↑i : Int) ∧ aBin Tryd.prog BinOp.shr (3 : Nat) (I (at_ g i)) (I (↑j : Int)) = some (I (↑((at_ g i).toNat >>> j) : Int)) ∧ aBin Tryd.prog BinOp.and (3 : Nat) (I (↑((at_ g i).toNat >>> j) : Int)) (I 1) = some (I 0) ∧ aIndexAddr Tryd.prog 22 (ls g r) (I (↑j : Int)) = some (AV.cptr (ints (List.drop j g))) ∧ aLoad Tryd.prog 3 (ints (List.drop j g)) = some (I (g.getD j i0)) ∧ aBin Tryd.prog BinOp.shr (3 : Nat) (I (g.getD j i0)) (I (↑i : Int)) = some (I (↑((at_ g j).toNat >>> i) : Int)) ∧ aBin Tryd.prog BinOp.and (3 : Nat) (I (↑((at_ g j).toNat >>> i) : Int)) (I 1) = some (I 0) ∧ IntKind.i64.wrap ((↑j : Int) + (1 : Int)) = (↑j : Int) + (1 : Int) ∧ (55 : Nat) = (55 : Nat) ∧ j < i ∧ Keep (H.mk [] [] [] = H.mk [] [] [] ∧ [ls g r, I (↑i : Int), I (at_ g i), ls g r, I (↑g.length : Int), I (↑i : Int), I (↑i : Int), I ((↑j : Int) + (1 : Int))] = [ls g r, I (↑i : Int), I (at_ g i), ls g r, I (↑g.length : Int), I (↑i : Int), I (↑i : Int), I (↑(j + (1 : Nat)) : Int)] ∧ ∀ (k : Nat), k < j + (1 : Nat) → bi (at_ g i) k = bi (at_ g k) i)) (by kernel_rfl) ?_⟩
        refine ⟨by first | with_reducible assumption | omega | assumption, ?_⟩
        refine ⟨by first | exact told_shr (by first | exact Int.natCast_nonneg _ | omega) (by with_reducible assumption) | exact told_shr (by omega) rfl, ?_⟩
        refine ⟨told_and (by with_reducible assumption), ?_⟩
        refine ⟨by first | exact ix_ints (by kernel_rfl) (by omega) (by assumption) | exact ix_ints (by kernel_rfl) (by omega) (rok_idx (by assumption) (by omega)), ?_⟩
        refine ⟨by first | exact ld_ints (by kernel_rfl) (by kernel_rfl) (by omega) | exact ldm_ints (by kernel_rfl) (by kernel_rfl) (by first | omega | (simp; omega)), ?_⟩
        refine ⟨by first | exact told_shr (by first | exact Int.natCast_nonneg _ | omega) (by with_reducible assumption) | exact told_shr (by omega) rfl, ?_⟩
        refine ⟨told_and (by with_reducible assumption), ?_⟩
        refine ⟨wr _ (by omega) (by omega), ?_⟩
        refine ⟨by first | with_reducible assumption | omega | assumption, ?_⟩
        refine ⟨by first | with_reducible assumption | omega | assumption, ?_⟩
        exact ⟨rfl, rfl, hk⟩
      · obtain ⟨ev2, ev3⟩ := i_bitv b2.1 (by omega) (show i ≤ 64 by omega) true c2
        have ev3 : _ = (1 : Int) := ev3
        have hn : ¬ q5 g i := fun h => by have := h j (by omega); rw [c1, c2] at this; cases this
        refine ⟨[Ans.o (Orc.b true), Ans.o (Orc.val 43 (I (↑((at_ g i).toNat >>> j) : Int)) H.nil), Ans.o (Orc.val 44 (I (↑false.toNat : Int)) H.nil), Ans.o (Orc.val 47 (AV.cptr (ints (List.drop j g))) H.nil), Ans.o (Orc.val 48 (I (g.getD j i0)) H.nil), Ans.o (Orc.val 50 (I (↑((at_ g j).toNat >>> i) : Int)) H.nil), Ans.o (Orc.val 51 (I (↑true.toNat : Int)) H.nil), Ans.o Orc.dflt], fun u => of_eq ((↑j : Int) < (↑i : Int) ∧ aBin Tryd.prog BinOp.shr (3 : Nat) (I (at_ g i)) (I (↑j : Int)) = some (I (↑((at_ g i).toNat >>> j) : Int)) ∧ aBin Tryd.prog BinOp.and (3 : Nat) (I (↑((at_ g i).toNat >>> j) : Int)) (I 1) = some (I 0) ∧ aIndexAddr Tryd.prog 22 (ls g r) (I (↑j : Int)) = some (AV.cptr (ints (List.drop j g))) ∧ aLoad Tryd.prog 3 (ints (List.drop j g)) = some (I (g.getD j i0)) ∧ aBin Tryd.prog BinOp.shr (3 : Nat) (I (g.getD j i0)) (I (↑i : Int)) = some (I (↑((at_ g j).toNat >>> i) : Int)) ∧ aBin Tryd.prog BinOp.and (3 : Nat) (I (↑((at_ g j).toNat >>> i) : Int)) (I 1) = some (I 1) ∧ (55 : Nat) = (55 : Nat) ∧ hits [Out.mk Unit AX.ret [2] (fun x => ¬q5 g i) (fun x => [AV.bool false]) (fun x => H.nil) fun x => [], Out.mk Unit (AX.exit 2) [0, 14, 15, 16] (fun x => q5 g i) (fun x => [ls g r, ls g r, I (↑g.length : Int), I (↑i : Int)]) (fun x => H.nil) fun x => []] AX.ret [ls g r, u (1 : Nat), AV.bool false, I (↑i : Int), I (at_ g i), I (↑j : Int), u (6 : Nat), u (7 : Nat), u (8 : Nat), u (9 : Nat), u (10 : Nat), u (11 : Nat), u (12 : Nat), u (13 : Nat), ls g r, I (↑g.length : Int), I (↑i : Int), u (17 : Nat), u (18 : Nat), u (19 : Nat), u (20 : Nat), u (21 : Nat), u (22 : Nat), u (23 : Nat), u (24 : Nat), u (25 : Nat), u (26 : Nat), u (27 : Nat), u (28 : Nat), u (29 : Nat), u (30 : Nat), u (31 : Nat), u (32 : Nat), u (33 : Nat), u (34 : Nat), u (35 : Nat), u (36 : Nat), I (↑i : Int), I (↑j : Int), AV.bool true, I (↑j : Int), I (at_ g i), I (↑j : Int), I (↑((at_ g i).toNat >>> j) : Int), I 0, ls g r, I (↑j : Int), AV.cptr (ints (List.drop j g)), I (g.getD j i0), I (↑i : Int), I (↑((at_ g j).toNat >>> i) : Int), I 1, AV.bool true, u (53 : Nat), u (54 : Nat)] (H.mk [] [] [])) (by kernel_rfl) ?_⟩
        refine ⟨by first | with_reducible assumption | omega | assumption, ?_⟩
        refine ⟨by first | exact told_shr (by first | exact Int.natCast_nonneg _ | omega) (by with_reducible assumption) | exact told_shr (by omega) rfl, ?_⟩
        refine ⟨told_and (by with_reducible assumption), ?_⟩
        refine ⟨by first | exact ix_ints (by kernel_rfl) (by omega) (by assumption) | exact ix_ints (by kernel_rfl) (by omega) (rok_idx (by assumption) (by omega)), ?_⟩
        refine ⟨by first | exact ld_ints (by kernel_rfl) (by kernel_rfl) (by omega) | exact ldm_ints (by kernel_rfl) (by kernel_rfl) (by first | omega | (simp; omega)), ?_⟩
        refine ⟨by first | exact told_shr (by first | exact Int.natCast_nonneg _ | omega) (by with_reducible assumption) | exact told_shr (by omega) rfl, ?_⟩
        refine ⟨told_and (by with_reducible assumption), ?_⟩
        refine ⟨by first | with_reducible assumption | omega | assumption, ?_⟩
        exact .inl ⟨(), hn, rfl, rfl, rfl⟩
    · obtain ⟨ev0, ev1⟩ := i_bitv b1.1 (by omega) (show j ≤ 64 by omega) true c1
      have ev1 : _ = (1 : Int) := ev1
      cases c2 : bi (at_ g j) i
      · obtain ⟨ev2, ev3⟩ := i_bitv b2.1 (by omega) (show i ≤ 64 by omega) false c2
        have ev3 : _ = (0 : Int) := ev3
        have hn : ¬ q5 g i := fun h => by have := h j (by omega); rw [c1, c2] at this; cases this
        refine ⟨[Ans.o (Orc.b true), Ans.o (Orc.val 43 (I (↑((at_ g i).toNat >>> j) : Int)) H.nil), Ans.o (Orc.val 44 (I (↑true.toNat : Int)) H.nil), Ans.o (Orc.val 47 (AV.cptr (ints (List.drop j g))) H.nil), Ans.o (Orc.val 48 (I (g.getD j i0)) H.nil), Ans.o (Orc.val 50 (I (↑((at_ g j).toNat >>> i) : Int)) H.nil), Ans.o (Orc.val 51 (I (↑false.toNat : Int)) H.nil), Ans.o Orc.dflt], fun u => of_eq ((↑j : Int) < (↑i : Int) ∧ aBin Tryd.prog BinOp.shr (3 : Nat) (I (at_ g i)) (I (↑j : Int)) = some (I (↑((at_ g i).toNat >>> j) : Int)) ∧ aBin Tryd.prog BinOp.and (3 : Nat) (I (↑((at_ g i).toNat >>> j) : Int)) (I 1) = some (I 1) ∧ aIndexAddr Tryd.prog 22 (ls g r) (I (↑j : Int)) = some (AV.cptr (ints (List.drop j g))) ∧ aLoad Tryd.prog 3 (ints (List.drop j g)) = some (I (g.getD j i0)) ∧ aBin Tryd.prog BinOp.shr (3 : Nat) (I (g.getD j i0)) (I (↑i : Int)) = some (I (↑((at_ g j).toNat >>> i) : Int)) ∧ aBin Tryd.prog BinOp.and (3 : Nat) (I (↑((at_ g j).toNat >>> i) : Int)) (I 1) = some (I 0) ∧ (55 : Nat) = (55 : Nat) ∧ hits [Out.mk Unit AX.ret [2] (fun x => ¬q5 g i) (fun x => [AV.bool false]) (fun x => H.nil) fun x => [], Out.mk Unit (AX.exit 2) [0, 14, 15, 16] (fun x => q5 g i) (fun x => [ls g r, ls g r, I (↑g.length : Int), I (↑i : Int)]) (fun x => H.nil) fun x => []] AX.ret [ls g r, u (1 : Nat), AV.bool false, I (↑i : Int), I (at_ g i), I (↑j : Int), u (6 : Nat), u (7 : Nat), u (8 : Nat), u (9 : Nat), u (10 : Nat), u (11 : Nat), u (12 : Nat), u (13 : Nat), ls g r, I (↑g.length : Int), I (↑i : Int), u (17 : Nat), u (18 : Nat), u (19 : Nat), u (20 : Nat), u (21 : Nat), u (22 : Nat), u (23 : Nat), u (24 : Nat), u (25 : Nat), u (26 : Nat), u (27 : Nat), u (28 : Nat), u (29 : Nat), u (30 : Nat), u (31 : Nat), u (32 : Nat), u (33 : Nat), u (34 : Nat), u (35 : Nat), u (36 : Nat), I (↑i : Int), I (↑j : Int), AV.bool true, I (↑j : Int), I (at_ g i), I (↑j : Int), I (↑((at_ g i).toNat >>> j) : Int), I 1, ls g r, I (↑j : Int), AV.cptr (ints (List.drop j g)), I (g.getD j i0), I (↑i : Int), I (↑((at_ g j).toNat >>> i) : Int), I 0, AV.bool true, u (53 : Nat), u (54 : Nat)] (H.mk [] [] [])) (by kernel_rfl) ?_⟩
        refine ⟨by first | with_reducible assumption | omega | assumption, ?_⟩
        refine ⟨by first | exact told_shr (by first | exact Int.natCast_nonneg _ | omega) (by with_reducible assumption) | exact told_shr (by omega) rfl, ?_⟩
        refine ⟨told_and (by with_reducible assumption), ?_⟩
        refine ⟨by first | exact ix_ints (by kernel_rfl) (by omega) (by assumption) | exact ix_ints (by kernel_rfl) (by omega) (rok_idx (by assumption) (by omega)), ?_⟩
        refine ⟨by first | exact ld_ints (by kernel_rfl) (by kernel_rfl) (by omega) | exact ldm_ints (by kernel_rfl) (by kernel_rfl) (by first | omega | (simp; omega)), ?_⟩
        refine ⟨by first | exact told_shr (by first | exact Int.natCast_nonneg _ | omega) (by with_reducible assumption) | exact told_shr (by omega) rfl, ?_⟩
        refine ⟨told_and (by with_reducible assumption), ?_⟩
        refine ⟨by first | with_reducible assumption | omega | assumption, ?_⟩
        exact .inl ⟨(), hn, rfl, rfl, rfl⟩
      · obtain ⟨ev2, ev3⟩ := i_bitv b2.1 (by omega) (show i ≤ 64 by omega) true c2
        have ev3 : _ = (1 : Int) := ev3
        have hk := all_succ (q := fun k => bi (at_ g i) k = bi (at_ g k) i) ha (c1.trans c2.symm)
        refine ⟨[Ans.o (Orc.b true), Ans.o (Orc.val 43 (I (↑((at_ g i).toNat >>> j) : Int)) H.nil), Ans.o (Orc.val 44 (I (↑true.toNat : Int)) H.nil), Ans.o (Orc.val 47 (AV.cptr (ints (List.drop j g))) H.nil), Ans.o (Orc.val 48 (I (g.getD j i0)) H.nil), Ans.o (Orc.val 50 (I (↑((at_ g j).toNat >>> i) : Int)) H.nil), Ans.o (Orc.val 51 (I (↑true.toNat : Int)) H.nil), Ans.o Orc.dflt], fun u => of_eq ((↑j : Int) < (↑i : Int) ∧ aBin Tryd.prog BinOp.shr (3 : Nat) (I (at_ g i)) (I (↑j : Int)) = some (I (↑((at_ g i).toNat >>> j) : Int)) ∧ aBin Tryd.prog BinOp.and (3 : Nat) (I (↑((at_ g i).toNat >>> j) : Int)) (I 1) = some (I 1) ∧ aIndexAddr Tryd.prog 22 (ls g r) (I (↑j : Int)) = some (AV.cptr (ints (List.drop j g))) ∧ aLoad Tryd.prog 3 (ints (List.drop j g)) = some (I (g.getD j i0)) ∧ aBin Tryd.prog BinOp.shr (3 : Nat) (I (g.getD j i0)) (I (↑i : Int)) = some (I (↑((at_ g j).toNat >>> i) : Int)) ∧ aBin Tryd.prog BinOp.and (3 : Nat) (I (↑((at_ g j).toNat >>> i) : Int)) (I 1) = some (I 1) ∧ IntKind.i64.wrap ((↑j : Int) + (1 : Int)) = (↑j : Int) + (1 : Int) ∧ (55 : Nat) = (55 : Nat) ∧ j < i ∧ Keep (H.mk [] [] [] = H.mk [] [] [] ∧ [ls g r, I (↑i : Int), I (at_ g i), ls g r, I (↑g.length : Int), I (↑i : Int), I (↑i : Int), I ((↑j : Int) + (1 : Int))] = [ls g r, I (↑i : Int), I (at_ g i), ls g r, I (↑g.length : Int), I (↑i : Int), I (↑i : Int), I (↑(j + (1 : Nat)) : Int)] ∧ ∀ (k : Nat), k < j + (1 : Nat) → bi (at_ g i) k = bi (at_ g k) i)) (by kernel_rfl) ?_⟩
        refine ⟨by first | with_reducible assumption | omega | assumption, ?_⟩
        refine ⟨by first | exact told_shr (by first | exact Int.natCast_nonneg _ | omega) (by with_reducible assumption) | exact told_shr (by omega) rfl, ?_⟩
        refine ⟨told_and (by with_reducible assumption), ?_⟩
        refine ⟨by first | exact ix_ints (by kernel_rfl) (by omega) (by assumption) | exact ix_ints (by kernel_rfl) (by omega) (rok_idx (by assumption) (by omega)), ?_⟩
        refine ⟨by first | exact ld_ints (by kernel_rfl) (by kernel_rfl) (by omega) | exact ldm_ints (by kernel_rfl) (by kernel_rfl) (by first | omega | (simp; omega)), ?_⟩
        refine ⟨by first | exact told_shr (by first | exact Int.natCast_nonneg _ | omega) (by with_reducible assumption) | exact told_shr (by omega) rfl, ?_⟩
        refine ⟨told_and (by with_reducible assumption), ?_⟩
        refine ⟨wr _ (by omega) (by omega), ?_⟩
        refine ⟨by first | with_reducible assumption | omega | assumption, ?_⟩
        refine ⟨by first | with_reducible assumption | omega | assumption, ?_⟩
        exact ⟨rfl, rfl, hk⟩
  · have hz : (i : Int) ≤ j := by omega
    have hj' : j = i := by omega
    subst hj'
    refine ⟨[Ans.o (Orc.b false)], fun u => of_eq ((↑j : Int) ≤ (↑j : Int) ∧ (55 : Nat) = (55 : Nat) ∧ hits [Out.mk Unit AX.ret [2] (fun x => ¬q5 g j) (fun x => [AV.bool false]) (fun x => H.nil) fun x => [], Out.mk Unit (AX.exit 2) [0, 14, 15, 16] (fun x => q5 g j) (fun x => [ls g r, ls g r, I (↑g.length : Int), I (↑j : Int)]) (fun x => H.nil) fun x => []] (AX.exit 2) [ls g r, u (1 : Nat), u (2 : Nat), I (↑j : Int), I (at_ g j), u (5 : Nat), u (6 : Nat), u (7 : Nat), u (8 : Nat), u (9 : Nat), u (10 : Nat), u (11 : Nat), u (12 : Nat), u (13 : Nat), ls g r, I (↑g.length : Int), I (↑j : Int), u (17 : Nat), u (18 : Nat), u (19 : Nat), u (20 : Nat), u (21 : Nat), u (22 : Nat), u (23 : Nat), u (24 : Nat), u (25 : Nat), u (26 : Nat), u (27 : Nat), u (28 : Nat), u (29 : Nat), u (30 : Nat), u (31 : Nat), u (32 : Nat), u (33 : Nat), u (34 : Nat), u (35 : Nat), u (36 : Nat), I (↑j : Int), I (↑j : Int), AV.bool false, u (40 : Nat), u (41 : Nat), u (42 : Nat), u (43 : Nat), u (44 : Nat), u (45 : Nat), u (46 : Nat), u (47 : Nat), u (48 : Nat), u (49 : Nat), u (50 : Nat), u (51 : Nat), u (52 : Nat), u (53 : Nat), u (54 : Nat)] (H.mk [] [] [])) (by kernel_rfl) ?_⟩
    refine ⟨by first | with_reducible assumption | omega | assumption, ?_⟩
    refine ⟨by first | with_reducible assumption | omega | assumption, ?_⟩
    exact .inr (.inl ⟨(), ha, rfl, rfl, rfl⟩)
abbrev o29 (g : List Int) : List Out :=
  [.mk Unit .ret [2] (fun _ => ¬ ∀ k, k < g.length → q6 g k) (fun _ => [.bool false]) (fun _ => .nil) (fun _ => []), .mk Unit (.exit 0) [] (fun _ => ∀ k, k < g.length → q6 g k) (fun _ => []) (fun _ => .nil) (fun _ => [])]
theorem simp29 : allSimpleM none1 (loopAt Tryd.f29 0) = true := by kernel_rfl
theorem lp29 (g : List Int) (r : Room) (h1 : sz g) (h2 : rok g r) :
    LoopS (En6 []) (loopAt Tryd.f29 0) 55 [0, 14, 15, 16] [ls g r, ls g r, I g.length, I 0] .nil (o29 g) := by
  have hR : Rests (En6 []) none1 := rests mixed .nil
  have ev0 := pw_shl (n := g.length) (by have := h1.2; omega)
  have h64 := pw_64 h1.2
  have hl := h1.2
  refine loop_s hR simp29 none (by intro _ h; cases h) (fun j vs h => h = .nil ∧ vs = [ls g r, ls g r, I g.length, I j] ∧ ∀ k, k < j → q6 g k) g.length ⟨rfl, rfl, fun k hk => absurd hk (by omega)⟩ (by intro _ h; cases h) ?_
  rintro j vs h hj ⟨rfl, rfl, ha⟩
  by_cases hz : (j : Int) < g.length
  · have hz' : j < g.length := by omega
    have hr := rok_idx h2 hz'
    by_cases c1 : at_ g j < 0
    · have hn : ¬ ∀ k, k < g.length → q6 g k := fun h => by have := (h j hz').1.1.1; omega
      refine ⟨[Ans.o (Orc.b true), Ans.o (Orc.val 19 (AV.cptr (ints (List.drop j g))) H.nil), Ans.o (Orc.val 20 (I (g.getD j i0)) H.nil), Ans.o (Orc.b true)], fun u => of_eq ((↑j : Int) < (↑g.length : Int) ∧ aIndexAddr Tryd.prog 22 (ls g r) (I (↑j : Int)) = some (AV.cptr (ints (List.drop j g))) ∧ aLoad Tryd.prog 3 (ints (List.drop j g)) = some (I (g.getD j i0)) ∧ g.getD j i0 < (0 : Int) ∧ (55 : Nat) = (55 : Nat) ∧ hits [Out.mk Unit AX.ret [2] (fun x => ¬∀ (k : Nat), k < g.length → q6 g k) (fun x => [AV.bool false]) (fun x => H.nil) fun x => [], Out.mk Unit (AX.exit 0) [] (fun x => ∀ (k : Nat), k < g.length → q6 g k) (fun x => []) (fun x => H.nil) fun x => []] AX.ret [ls g r, u (1 : Nat), AV.bool false, I (↑j : Int), I (g.getD j i0), u (5 : Nat), u (6 : Nat), u (7 : Nat), u (8 : Nat), u (9 : Nat), u (10 : Nat), u (11 : Nat), u (12 : Nat), u (13 : Nat), ls g r, I (↑g.length : Int), I (↑j : Int), AV.bool true, I (↑j : Int), AV.cptr (ints (List.drop j g)), I (g.getD j i0), I (g.getD j i0), AV.bool true, AV.bool true, AV.tup [], AV.tup [], AV.tup [], AV.tup [], AV.tup [], AV.bool true, AV.bool true, AV.tup [], AV.tup [], AV.tup [], AV.tup [], AV.tup [], AV.bool true, u (37 : Nat), u (38 : Nat), u (39 : Nat), u (40 : Nat), u (41 : Nat), u (42 : Nat), u (43 : Nat), u (44 : Nat), u (45 : Nat), u (46 : Nat), u (47 : Nat), u (48 : Nat), u (49 : Nat), u (50 : Nat), u (51 : Nat), u (52 : Nat), u (53 : Nat), u (54 : Nat)] (H.mk [] [] [])) (by kernel_rfl) ?_⟩
      refine ⟨by first | with_reducible assumption | omega | assumption, ?_⟩
      refine ⟨by first | exact ix_ints (by kernel_rfl) (by omega) (by assumption) | exact ix_ints (by kernel_rfl) (by omega) (rok_idx (by assumption) (by omega)), ?_⟩
      refine ⟨by first | exact ld_ints (by kernel_rfl) (by kernel_rfl) (by omega) | exact ldm_ints (by kernel_rfl) (by kernel_rfl) (by first | omega | (simp; omega)), ?_⟩
      refine ⟨by first | with_reducible assumption | omega | assumption, ?_⟩
      refine ⟨by first | with_reducible assumption | omega | assumption, ?_⟩
      exact .inl ⟨(), hn, rfl, rfl, rfl⟩
    · have c1 : 0 ≤ at_ g j := by omega
      by_cases c2 : ((2 ^ g.length : Nat) : Int) ≤ at_ g j
      · have hn : ¬ ∀ k, k < g.length → q6 g k := fun h => by have := (h j hz').1.1.2; omega
        refine ⟨[Ans.o (Orc.b true), Ans.o (Orc.val 19 (AV.cptr (ints (List.drop j g))) H.nil), Ans.o (Orc.val 20 (I (g.getD j i0)) H.nil), Ans.o (Orc.b false), Ans.o (Orc.val 27 (I (↑((2 : Nat) ^ g.length) : Int)) H.nil), Ans.o (Orc.b true)], fun u => of_eq ((↑j : Int) < (↑g.length : Int) ∧ aIndexAddr Tryd.prog 22 (ls g r) (I (↑j : Int)) = some (AV.cptr (ints (List.drop j g))) ∧ aLoad Tryd.prog 3 (ints (List.drop j g)) = some (I (g.getD j i0)) ∧ (0 : Int) ≤ g.getD j i0 ∧ aBin Tryd.prog BinOp.shl (3 : Nat) (I 1) (I (↑g.length : Int)) = some (I (↑((2 : Nat) ^ g.length) : Int)) ∧ (↑((2 : Nat) ^ g.length) : Int) ≤ g.getD j i0 ∧ (55 : Nat) = (55 : Nat) ∧ hits [Out.mk Unit AX.ret [2] (fun x => ¬∀ (k : Nat), k < g.length → q6 g k) (fun x => [AV.bool false]) (fun x => H.nil) fun x => [], Out.mk Unit (AX.exit 0) [] (fun x => ∀ (k : Nat), k < g.length → q6 g k) (fun x => []) (fun x => H.nil) fun x => []] AX.ret [ls g r, u (1 : Nat), AV.bool false, I (↑j : Int), I (g.getD j i0), u (5 : Nat), u (6 : Nat), u (7 : Nat), u (8 : Nat), u (9 : Nat), u (10 : Nat), u (11 : Nat), u (12 : Nat), u (13 : Nat), ls g r, I (↑g.length : Int), I (↑j : Int), AV.bool true, I (↑j : Int), AV.cptr (ints (List.drop j g)), I (g.getD j i0), I (g.getD j i0), AV.bool false, AV.bool false, I (g.getD j i0), ls g r, I (↑g.length : Int), I (↑((2 : Nat) ^ g.length) : Int), AV.bool true, AV.bool true, AV.bool true, AV.tup [], AV.tup [], AV.tup [], AV.tup [], AV.tup [], AV.bool true, u (37 : Nat), u (38 : Nat), u (39 : Nat), u (40 : Nat), u (41 : Nat), u (42 : Nat), u (43 : Nat), u (44 : Nat), u (45 : Nat), u (46 : Nat), u (47 : Nat), u (48 : Nat), u (49 : Nat), u (50 : Nat), u (51 : Nat), u (52 : Nat), u (53 : Nat), u (54 : Nat)] (H.mk [] [] [])) (by kernel_rfl) ?_⟩
        refine ⟨by first | with_reducible assumption | omega | assumption, ?_⟩
        refine ⟨by first | exact ix_ints (by kernel_rfl) (by omega) (by assumption) | exact ix_ints (by kernel_rfl) (by omega) (rok_idx (by assumption) (by omega)), ?_⟩
        refine ⟨by first | exact ld_ints (by kernel_rfl) (by kernel_rfl) (by omega) | exact ldm_ints (by kernel_rfl) (by kernel_rfl) (by first | omega | (simp; omega)), ?_⟩
        refine ⟨by first | with_reducible assumption | omega | assumption, ?_⟩
        refine ⟨by first | exact told_shl (by first | exact Int.natCast_nonneg _ | omega) (by with_reducible assumption) | exact told_shl (by omega) rfl, ?_⟩
        refine ⟨by first | with_reducible assumption | omega | assumption, ?_⟩
        refine ⟨by first | with_reducible assumption | omega | assumption, ?_⟩
        exact .inl ⟨(), hn, rfl, rfl, rfl⟩
      · have c2 : at_ g j < ((2 ^ g.length : Nat) : Int) := by omega
        cases c3 : bi (at_ g j) j
        · obtain ⟨ev1, ev2⟩ := i_bitv c1 (by omega) (show j ≤ 64 by omega) false c3
          have ev2 : _ = (0 : Int) := ev2
          have hq : ∀ k, k ≤ j → q1 g k := fun k hk => by
            rcases Nat.lt_or_ge k j with h | h
            · exact (ha k h).1.1
            · have : k = j := by omega
              subst this; exact ⟨c1, c2⟩
          refine ⟨[Ans.o (Orc.b true), Ans.o (Orc.val 19 (AV.cptr (ints (List.drop j g))) H.nil), Ans.o (Orc.val 20 (I (g.getD j i0)) H.nil), Ans.o (Orc.b false), Ans.o (Orc.val 27 (I (↑((2 : Nat) ^ g.length) : Int)) H.nil), Ans.o (Orc.b false), Ans.o (Orc.val 33 (I (↑((at_ g j).toNat >>> j) : Int)) H.nil), Ans.o (Orc.val 34 (I (↑false.toNat : Int)) H.nil), Ans.o Orc.dflt, Ans.loop [0, 3, 4, 14, 15, 16, 37, 38] [Out.mk Unit AX.ret [2] (fun x => ¬q5 g j) (fun x => [AV.bool false]) (fun x => H.nil) fun y => [], Out.mk Unit (AX.exit 2) [0, 14, 15, 16] (fun x => q5 g j) (fun x => [ls g r, ls g r, I (↑g.length : Int), I (↑j : Int)]) (fun x => H.nil) fun y => []]], fun u => of_eq ((↑j : Int) < (↑g.length : Int) ∧ aIndexAddr Tryd.prog 22 (ls g r) (I (↑j : Int)) = some (AV.cptr (ints (List.drop j g))) ∧ aLoad Tryd.prog 3 (ints (List.drop j g)) = some (I (g.getD j i0)) ∧ (0 : Int) ≤ g.getD j i0 ∧ aBin Tryd.prog BinOp.shl (3 : Nat) (I 1) (I (↑g.length : Int)) = some (I (↑((2 : Nat) ^ g.length) : Int)) ∧ g.getD j i0 < (↑((2 : Nat) ^ g.length) : Int) ∧ aBin Tryd.prog BinOp.shr (3 : Nat) (I (g.getD j i0)) (I (↑j : Int)) = some (I (↑((at_ g j).toNat >>> j) : Int)) ∧ aBin Tryd.prog BinOp.and (3 : Nat) (I (↑((at_ g j).toNat >>> j) : Int)) (I 1) = some (I 0) ∧ LoopS (Env.mk Tryd.prog (Sof (P := Tryd.prog) []) (Pof (P := Tryd.prog) []) H.nil.base (300 : Nat)) (loopAt Tryd.f29 1) 55 [0, 3, 4, 14, 15, 16, 37, 38] [ls g r, I (↑j : Int), I (g.getD j i0), ls g r, I (↑g.length : Int), I (↑j : Int), I (↑j : Int), I 0] (H.mk [] [] []) [Out.mk Unit AX.ret [2] (fun x => ¬q5 g j) (fun x => [AV.bool false]) (fun x => H.nil) fun y => [], Out.mk Unit (AX.exit 2) [0, 14, 15, 16] (fun x => q5 g j) (fun x => [ls g r, ls g r, I (↑g.length : Int), I (↑j : Int)]) (fun x => H.nil) fun y => []] ∧ (∀ (y : Unit), ¬q5 g j → ∀ (u : Nat → AV), (55 : Nat) = (55 : Nat) ∧ hits [Out.mk Unit AX.ret [2] (fun x => ¬∀ (k : Nat), k < g.length → q6 g k) (fun x => [AV.bool false]) (fun x => H.nil) fun x => [], Out.mk Unit (AX.exit 0) [] (fun x => ∀ (k : Nat), k < g.length → q6 g k) (fun x => []) (fun x => H.nil) fun x => []] AX.ret [u (0 : Nat), u (1 : Nat), AV.bool false, u (3 : Nat), u (4 : Nat), u (5 : Nat), u (6 : Nat), u (7 : Nat), u (8 : Nat), u (9 : Nat), u (10 : Nat), u (11 : Nat), u (12 : Nat), u (13 : Nat), u (14 : Nat), u (15 : Nat), u (16 : Nat), u (17 : Nat), u (18 : Nat), u (19 : Nat), u (20 : Nat), u (21 : Nat), u (22 : Nat), u (23 : Nat), u (24 : Nat), u (25 : Nat), u (26 : Nat), u (27 : Nat), u (28 : Nat), u (29 : Nat), u (30 : Nat), u (31 : Nat), u (32 : Nat), u (33 : Nat), u (34 : Nat), u (35 : Nat), u (36 : Nat), u (37 : Nat), u (38 : Nat), u (39 : Nat), u (40 : Nat), u (41 : Nat), u (42 : Nat), u (43 : Nat), u (44 : Nat), u (45 : Nat), u (46 : Nat), u (47 : Nat), u (48 : Nat), u (49 : Nat), u (50 : Nat), u (51 : Nat), u (52 : Nat), u (53 : Nat), u (54 : Nat)] (H.mk [] [] [])) ∧ (∀ (y : Unit), (∀ (j_1 : Nat), j_1 < j → bi (at_ g j) j_1 = bi (at_ g j_1) j) → ∀ (u : Nat → AV), IntKind.i64.wrap ((↑j : Int) + (1 : Int)) = (↑j : Int) + (1 : Int) ∧ (55 : Nat) = (55 : Nat) ∧ j < g.length ∧ Keep (H.mk [] [] [] = H.mk [] [] [] ∧ [ls g r, ls g r, I (↑g.length : Int), I ((↑j : Int) + (1 : Int))] = [ls g r, ls g r, I (↑g.length : Int), I (↑(j + (1 : Nat)) : Int)] ∧ ∀ (k : Nat), k < j + (1 : Nat) → q6 g k)) ∧ True) (by kernel_rfl) ?_⟩
          refine ⟨by first | with_reducible assumption | omega | assumption, ?_⟩
          refine ⟨by first | exact ix_ints (by kernel_rfl) (by omega) (by assumption) | exact ix_ints (by kernel_rfl) (by omega) (rok_idx (by assumption) (by omega)), ?_⟩
          refine ⟨by first | exact ld_ints (by kernel_rfl) (by kernel_rfl) (by omega) | exact ldm_ints (by kernel_rfl) (by kernel_rfl) (by first | omega | (simp; omega)), ?_⟩
          refine ⟨by first | with_reducible assumption | omega | assumption, ?_⟩
          refine ⟨by first | exact told_shl (by first | exact Int.natCast_nonneg _ | omega) (by with_reducible assumption) | exact told_shl (by omega) rfl, ?_⟩
          refine ⟨by first | with_reducible assumption | omega | assumption, ?_⟩
          refine ⟨by first | exact told_shr (by first | exact Int.natCast_nonneg _ | omega) (by with_reducible assumption) | exact told_shr (by omega) rfl, ?_⟩
          refine ⟨told_and (by with_reducible assumption), ?_⟩
          refine ⟨lp29i g r h1 h2 j hz' hq, ?_⟩
          refine And.intro ?_ ?_
          · skip
            intro y
            intro w1
            intro u
            refine ⟨by first | with_reducible assumption | omega | assumption, ?_⟩
            exact .inl ⟨(), fun h => (by with_reducible assumption : ¬ q5 g j) (h j hz').2, rfl, rfl, rfl⟩
          · skip
            refine And.intro ?_ ?_
            · skip
              intro y
              intro w1
              intro u
              refine ⟨wr _ (by omega) (by omega), ?_⟩
              refine ⟨by first | with_reducible assumption | omega | assumption, ?_⟩
              refine ⟨by first | with_reducible assumption | omega | assumption, ?_⟩
              exact ⟨rfl, rfl, all_succ (q := q6 g) ha ⟨⟨⟨c1, c2⟩, c3⟩, by with_reducible assumption⟩⟩
            · skip
              trivial
        · obtain ⟨ev1, ev2⟩ := i_bitv c1 (by omega) (show j ≤ 64 by omega) true c3
          have ev2 : _ = (1 : Int) := ev2
          have hn : ¬ ∀ k, k < g.length → q6 g k := fun h => by have := (h j hz').1.2; rw [c3] at this; cases this
          refine ⟨[Ans.o (Orc.b true), Ans.o (Orc.val 19 (AV.cptr (ints (List.drop j g))) H.nil), Ans.o (Orc.val 20 (I (g.getD j i0)) H.nil), Ans.o (Orc.b false), Ans.o (Orc.val 27 (I (↑((2 : Nat) ^ g.length) : Int)) H.nil), Ans.o (Orc.b false), Ans.o (Orc.val 33 (I (↑((at_ g j).toNat >>> j) : Int)) H.nil), Ans.o (Orc.val 34 (I (↑true.toNat : Int)) H.nil), Ans.o Orc.dflt], fun u => of_eq ((↑j : Int) < (↑g.length : Int) ∧ aIndexAddr Tryd.prog 22 (ls g r) (I (↑j : Int)) = some (AV.cptr (ints (List.drop j g))) ∧ aLoad Tryd.prog 3 (ints (List.drop j g)) = some (I (g.getD j i0)) ∧ (0 : Int) ≤ g.getD j i0 ∧ aBin Tryd.prog BinOp.shl (3 : Nat) (I 1) (I (↑g.length : Int)) = some (I (↑((2 : Nat) ^ g.length) : Int)) ∧ g.getD j i0 < (↑((2 : Nat) ^ g.length) : Int) ∧ aBin Tryd.prog BinOp.shr (3 : Nat) (I (g.getD j i0)) (I (↑j : Int)) = some (I (↑((at_ g j).toNat >>> j) : Int)) ∧ aBin Tryd.prog BinOp.and (3 : Nat) (I (↑((at_ g j).toNat >>> j) : Int)) (I 1) = some (I 1) ∧ (55 : Nat) = (55 : Nat) ∧ hits [Out.mk Unit AX.ret [2] (fun x => ¬∀ (k : Nat), k < g.length → q6 g k) (fun x => [AV.bool false]) (fun x => H.nil) fun x => [], Out.mk Unit (AX.exit 0) [] (fun x => ∀ (k : Nat), k < g.length → q6 g k) (fun x => []) (fun x => H.nil) fun x => []] AX.ret [ls g r, u (1 : Nat), AV.bool false, I (↑j : Int), I (g.getD j i0), u (5 : Nat), u (6 : Nat), u (7 : Nat), u (8 : Nat), u (9 : Nat), u (10 : Nat), u (11 : Nat), u (12 : Nat), u (13 : Nat), ls g r, I (↑g.length : Int), I (↑j : Int), AV.bool true, I (↑j : Int), AV.cptr (ints (List.drop j g)), I (g.getD j i0), I (g.getD j i0), AV.bool false, AV.bool false, I (g.getD j i0), ls g r, I (↑g.length : Int), I (↑((2 : Nat) ^ g.length) : Int), AV.bool false, AV.bool false, AV.bool false, I (g.getD j i0), I (↑j : Int), I (↑((at_ g j).toNat >>> j) : Int), I 1, AV.bool true, AV.bool true, u (37 : Nat), u (38 : Nat), u (39 : Nat), u (40 : Nat), u (41 : Nat), u (42 : Nat), u (43 : Nat), u (44 : Nat), u (45 : Nat), u (46 : Nat), u (47 : Nat), u (48 : Nat), u (49 : Nat), u (50 : Nat), u (51 : Nat), u (52 : Nat), u (53 : Nat), u (54 : Nat)] (H.mk [] [] [])) (by kernel_rfl) ?_⟩
          refine ⟨by first | with_reducible assumption | omega | assumption, ?_⟩
          refine ⟨by first | exact ix_ints (by kernel_rfl) (by omega) (by assumption) | exact ix_ints (by kernel_rfl) (by omega) (rok_idx (by assumption) (by omega)), ?_⟩
          refine ⟨by first | exact ld_ints (by kernel_rfl) (by kernel_rfl) (by omega) | exact ldm_ints (by kernel_rfl) (by kernel_rfl) (by first | omega | (simp; omega)), ?_⟩
          refine ⟨by first | with_reducible assumption | omega | assumption, ?_⟩
          refine ⟨by first | exact told_shl (by first | exact Int.natCast_nonneg _ | omega) (by with_reducible assumption) | exact told_shl (by omega) rfl, ?_⟩
          refine ⟨by first | with_reducible assumption | omega | assumption, ?_⟩
          refine ⟨by first | exact told_shr (by first | exact Int.natCast_nonneg _ | omega) (by with_reducible assumption) | exact told_shr (by omega) rfl, ?_⟩
          refine ⟨told_and (by with_reducible assumption), ?_⟩
          refine ⟨by first | with_reducible assumption | omega | assumption, ?_⟩
          exact .inl ⟨(), hn, rfl, rfl, rfl⟩
  · have hz : (g.length : Int) ≤ j := by omega
    have hj' : j = g.length := by omega
    subst hj'
    refine ⟨[Ans.o (Orc.b false)], fun u => of_eq ((↑g.length : Int) ≤ (↑g.length : Int) ∧ (55 : Nat) = (55 : Nat) ∧ hits [Out.mk Unit AX.ret [2] (fun x => ¬∀ (k : Nat), k < g.length → q6 g k) (fun x => [AV.bool false]) (fun x => H.nil) fun x => [], Out.mk Unit (AX.exit 0) [] (fun x => ∀ (k : Nat), k < g.length → q6 g k) (fun x => []) (fun x => H.nil) fun x => []] (AX.exit 0) [ls g r, u (1 : Nat), u (2 : Nat), u (3 : Nat), u (4 : Nat), u (5 : Nat), u (6 : Nat), u (7 : Nat), u (8 : Nat), u (9 : Nat), u (10 : Nat), u (11 : Nat), u (12 : Nat), u (13 : Nat), ls g r, I (↑g.length : Int), I (↑g.length : Int), AV.bool false, u (18 : Nat), u (19 : Nat), u (20 : Nat), u (21 : Nat), u (22 : Nat), u (23 : Nat), u (24 : Nat), u (25 : Nat), u (26 : Nat), u (27 : Nat), u (28 : Nat), u (29 : Nat), u (30 : Nat), u (31 : Nat), u (32 : Nat), u (33 : Nat), u (34 : Nat), u (35 : Nat), u (36 : Nat), u (37 : Nat), u (38 : Nat), u (39 : Nat), u (40 : Nat), u (41 : Nat), u (42 : Nat), u (43 : Nat), u (44 : Nat), u (45 : Nat), u (46 : Nat), u (47 : Nat), u (48 : Nat), u (49 : Nat), u (50 : Nat), u (51 : Nat), u (52 : Nat), u (53 : Nat), u (54 : Nat)] (H.mk [] [] [])) (by kernel_rfl) ?_⟩
    refine ⟨by first | with_reducible assumption | omega | assumption, ?_⟩
    refine ⟨by first | with_reducible assumption | omega | assumption, ?_⟩
    exact .inr (.inl ⟨(), ha, rfl, rfl, rfl⟩)
theorem ok29 : FokM Tryd.prog none1 29 Tryd.f29 := ⟨mixed, by kernel_rfl, by kernel_rfl, by kernel_rfl, by kernel_rfl⟩
theorem r29 (g : List Int) (r : Room) (hp : lim g.length ∧ rok g r) : Body ⟨Tryd.prog, Sof (P := Tryd.prog) [], Pof (P := Tryd.prog) [], H.nil.base, 300⟩ none1 Tryd.f29 [ls g r] .nil (.bool (grB g), .nil) := by
  obtain ⟨hl, hr⟩ := hp
  by_cases h0 : (g.length : Int) < 1
  · have hf := grB_f (g := g) (fun h => by have := h.1.1; omega)
    rw [hf]
    refine body_s ([Ans.o (Orc.b true)]) ((↑g.length : Int) < (1 : Int) ∧ (AV.bool false, H.mk [] [] []) = (AV.bool false, H.mk [] [] [])) (by kernel_rfl) ?_
    refine ⟨by first | with_reducible assumption | omega | assumption, ?_⟩
    first | with_reducible rfl | (refine bleaf_t ?_; omega) | (refine bleaf_f ?_; omega) | (refine ileaf ?_; omega) | rfl | (exfalso; omega)
  · have h0 : (1 : Int) ≤ g.length := by omega
    by_cases h6 : (6 : Int) < g.length
    · have hf := grB_f (g := g) (fun h => by have := h.1.2; omega)
      rw [hf]
      refine body_s ([Ans.o (Orc.b false), Ans.o (Orc.b true)]) ((1 : Int) ≤ (↑g.length : Int) ∧ (6 : Int) < (↑g.length : Int) ∧ (AV.bool false, H.mk [] [] []) = (AV.bool false, H.mk [] [] [])) (by kernel_rfl) ?_
      refine ⟨by first | with_reducible assumption | omega | assumption, ?_⟩
      refine ⟨by first | with_reducible assumption | omega | assumption, ?_⟩
      first | with_reducible rfl | (refine bleaf_t ?_; omega) | (refine bleaf_f ?_; omega) | (refine ileaf ?_; omega) | rfl | (exfalso; omega)
    · have h6 : (g.length : Int) ≤ 6 := by omega
      have h1 : sz g := by constructor <;> omega
      refine body_s ([Ans.o (Orc.b false), Ans.o (Orc.b false), Ans.loop [0, 14, 15, 16] [Out.mk Unit AX.ret [2] (fun x => ¬∀ (k : Nat), k < g.length → q6 g k) (fun x => [AV.bool false]) (fun x => H.nil) fun y => [], Out.mk Unit (AX.exit 0) [] (fun x => ∀ (k : Nat), k < g.length → q6 g k) (fun x => []) (fun x => H.nil) fun y => []]]) ((1 : Int) ≤ (↑g.length : Int) ∧ (↑g.length : Int) ≤ (6 : Int) ∧ LoopS (Env.mk Tryd.prog (Sof (P := Tryd.prog) []) (Pof (P := Tryd.prog) []) H.nil.base (300 : Nat)) (loopAt Tryd.f29 0) 55 [0, 14, 15, 16] [ls g r, ls g r, I (↑g.length : Int), I 0] (H.mk [] [] []) [Out.mk Unit AX.ret [2] (fun x => ¬∀ (k : Nat), k < g.length → q6 g k) (fun x => [AV.bool false]) (fun x => H.nil) fun y => [], Out.mk Unit (AX.exit 0) [] (fun x => ∀ (k : Nat), k < g.length → q6 g k) (fun x => []) (fun x => H.nil) fun y => []] ∧ (∀ (y : Unit), (¬∀ (k : Nat), k < g.length → q6 g k) → ∀ (u : Nat → AV), (AV.bool false, H.mk [] [] []) = (AV.bool (grB g), H.mk [] [] [])) ∧ (∀ (y : Unit), (∀ (k : Nat), k < g.length → (((0 : Int) ≤ at_ g k ∧ at_ g k < (↑((2 : Nat) ^ g.length) : Int)) ∧ bi (at_ g k) k = false) ∧ ∀ (j : Nat), j < k → bi (at_ g k) j = bi (at_ g j) k) → ∀ (u : Nat → AV), (AV.bool true, H.mk [] [] []) = (AV.bool (grB g), H.mk [] [] [])) ∧ True) (by kernel_rfl) ?_
      refine ⟨by first | with_reducible assumption | omega | assumption, ?_⟩
      refine ⟨by first | with_reducible assumption | omega | assumption, ?_⟩
      refine ⟨lp29 g r h1 hr, ?_⟩
      refine And.intro ?_ ?_
      · skip
        intro y
        intro w1
        intro u
        first | exact congrArg (fun b => (AV.bool b, H.nil)) (grB_t (gr_iff.2 ⟨h1, by with_reducible assumption⟩)).symm | exact congrArg (fun b => (AV.bool b, H.nil)) (grB_f (fun h => (by with_reducible assumption : ¬ ∀ k, k < g.length → q6 g k) (gr_iff.1 h).2)).symm
      · skip
        refine And.intro ?_ ?_
        · skip
          intro y
          intro w1
          intro u
          first | exact congrArg (fun b => (AV.bool b, H.nil)) (grB_t (gr_iff.2 ⟨h1, by with_reducible assumption⟩)).symm | exact congrArg (fun b => (AV.bool b, H.nil)) (grB_f (fun h => (by with_reducible assumption : ¬ ∀ k, k < g.length → q6 g k) (gr_iff.1 h).2)).symm
        · skip
          trivial
noncomputable def c29 : PCtr Tryd.prog := sctr ok29 (X := List Int × Room) (fun x => [ls x.1 x.2]) (fun x => lim x.1.length ∧ rok x.1 x.2) (fun x => .bool (grB x.1)) (by intro x y e _ _; simp at e; simp [e]) (fun x => by simp [AV.bnds, AV.bnd, AV.wk, rm_wk_bnd]) (fun x => by first | rfl | (simp [AV.bnd, rm_wk_bnd]; done)  | (simp [AV.bnd, AV.bnds, rm_wk_bnd]; done) | simp [AV.bnd, AV.bnds, Room.bnd, rm_wk_bnd]) (fun x hx => ⟨_, _, _, .nil, r29 (x.1) (x.2).wk (by first | exact hx | (simp only [rok_wk]; exact hx) | (simp only [rok_wk, lst_wk]; exact hx) | (simp only [rok_wk, lst_wk, lsn_wk]; exact hx))⟩)
end Go.Proofs.Sur

