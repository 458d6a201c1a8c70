/- Layer 5: graphs: what is one. -/
import Derived.Test.YtlomlnkafakloaaDoorSuM
import Derived.Test.YtlomlnkafakloaaDoorVm6
import Derived.Test.YtlomlnkafakloaaDoorProg
import Derived.KernelRfl
set_option linter.unusedSimpArgs false
set_option linter.unusedVariables false
set_option linter.unnecessarySimpa false
set_option maxHeartbeats 4000000
set_option maxRecDepth 100000
namespace Go.Proofs.Sur
open Go Go.VM

theorem mixed : Tryd.prog.follows .mixedOrders = true := by kernel_rfl
abbrev dbs : List Value := [.int .u8 0, .int .u8 1, .int .u8 56, .int .u8 2, .int .u8 57, .int .u8 49, .int .u8 28, .int .u8 3, .int .u8 61, .int .u8 58, .int .u8 42, .int .u8 50, .int .u8 38, .int .u8 29, .int .u8 17, .int .u8 4, .int .u8 62, .int .u8 47, .int .u8 59, .int .u8 36, .int .u8 45, .int .u8 43, .int .u8 51, .int .u8 22, .int .u8 53, .int .u8 39, .int .u8 33, .int .u8 30, .int .u8 24, .int .u8 18, .int .u8 12, .int .u8 5, .int .u8 63, .int .u8 55, .int .u8 48, .int .u8 27, .int .u8 60, .int .u8 41, .int .u8 37, .int .u8 16, .int .u8 46, .int .u8 35, .int .u8 44, .int .u8 21, .int .u8 52, .int .u8 32, .int .u8 23, .int .u8 11, .int .u8 54, .int .u8 26, .int .u8 40, .int .u8 15, .int .u8 34, .int .u8 20, .int .u8 31, .int .u8 10, .int .u8 25, .int .u8 14, .int .u8 19, .int .u8 9, .int .u8 13, .int .u8 8, .int .u8 7, .int .u8 6]
instance : Inhabited Globs := ⟨⟨fun g => match g with | 0 => dbs | _ => []⟩⟩
noncomputable abbrev En6 (cs : List (Ctr Tryd.prog)) : Env := ⟨Tryd.prog, Sof (P := Tryd.prog) cs, Pof (P := Tryd.prog) [], H.nil.base, 300⟩
abbrev lim (n : Nat) : Prop := n ≤ 9223372036854775807
abbrev ls (l : List Int) (r : Room) : AV := .sl (ints l) l.length r
abbrev at_ (l : List Int) (i : Nat) : Int := l.getD i i0
theorem all_succ {q : Nat → Prop} {j : Nat} (h : ∀ i, i < j → q i) (k : q j) : ∀ i, i < j + 1 → q i := fun i hi => by
  rcases Nat.lt_or_ge i j with h1 | h1
  · exact h i h1
  · have : i = j := by omega
    subst this; exact k
abbrev bi (s : Int) (e : Nat) : Bool := s.toNat.testBit e
theorem pw_shl {n : Nat} (h : n ≤ 62) : IntKind.i64.wrap (1 * 2 ^ min ((n : Int)).toNat IntKind.i64.bits) = ((2 ^ n : Nat) : Int) := by
  have := i_shl (a := 1) (n := n) h (by
    have : 2 ^ n ≤ 2 ^ 62 := Nat.pow_le_pow_right (by decide) h
    omega)
  rw [Nat.one_mul] at this
  exact this
theorem i_bit {a n : Nat} (ha : a < 9223372036854775808) : IntKind.i64.wrap ((BitVec.ofInt IntKind.i64.bits ((a >>> n : Nat) : Int) &&& BitVec.ofInt IntKind.i64.bits 1).toNat : Int) = ((a.testBit n).toNat : Int) := by
  have h : a >>> n < 9223372036854775808 := Nat.lt_of_le_of_lt (by rw [Nat.shiftRight_eq_div_pow]; exact Nat.div_le_self _ _) ha
  have := i_and (a := a >>> n) (b := 1) h (by decide)
  rw [bit_01] at this
  exact this
theorem ok84 : FokM Tryd.prog none1 84 Tryd.f84 := ⟨mixed, by kernel_rfl, by kernel_rfl, by kernel_rfl, by kernel_rfl⟩
theorem r84 (n : Int) (hp : True) : Body ⟨Tryd.prog, Sof (P := Tryd.prog) [], Pof (P := Tryd.prog) [], H.nil.base, 300⟩ none1 Tryd.f84 [I n] .nil (.bool (decide (1 ≤ n ∧ n ≤ 6)), .nil) := by
  refine body_s ([Ans.fork [Ans.fork [] []] []]) (((1 : Int) ≤ n → (n ≤ (6 : Int) → (AV.bool true, H.mk [] [] []) = (AV.bool (decide ((1 : Int) ≤ n ∧ n ≤ (6 : Int))), H.mk [] [] [])) ∧ ((6 : Int) < n → (AV.bool false, H.mk [] [] []) = (AV.bool (decide ((1 : Int) ≤ n ∧ n ≤ (6 : Int))), H.mk [] [] []))) ∧ (n < (1 : Int) → (AV.bool false, H.mk [] [] []) = (AV.bool (decide ((1 : Int) ≤ n ∧ n ≤ (6 : Int))), H.mk [] [] []))) (by kernel_rfl) ?_
  refine And.intro ?_ ?_
  · skip
    intro w0
    refine And.intro ?_ ?_
    · skip
      intro w1
      first | with_reducible rfl | (refine bleaf_t ?_; omega) | (refine bleaf_f ?_; omega) | (refine ileaf ?_; omega) | rfl | (exfalso; omega)
    · skip
      intro w1
      first | with_reducible rfl | (refine bleaf_t ?_; omega) | (refine bleaf_f ?_; omega) | (refine ileaf ?_; omega) | rfl | (exfalso; omega)
  · skip
    intro w0
    first | with_reducible rfl | (refine bleaf_t ?_; omega) | (refine bleaf_f ?_; omega) | (refine ileaf ?_; omega) | rfl | (exfalso; omega)
noncomputable def c84 : PCtr Tryd.prog := sctr ok84 (X := Int) (fun x => [I x]) (fun x => True) (fun x => .bool (decide (1 ≤ x ∧ x ≤ 6))) (by intro x y e _ _; simp at e; simp [e]) (fun x => by simp [AV.bnds, AV.bnd, AV.wk, rm_wk_bnd]) (fun x => by first | rfl | (simp [AV.bnd, rm_wk_bnd]; done)  | (simp [AV.bnd, AV.bnds, rm_wk_bnd]; done) | simp [AV.bnd, AV.bnds, Room.bnd, rm_wk_bnd]) (fun x hx => ⟨_, _, _, .nil, r84 (x) hx⟩)
theorem ok71 : FokM Tryd.prog none1 71 Tryd.f71 := ⟨mixed, by kernel_rfl, by kernel_rfl, by kernel_rfl, by kernel_rfl⟩
theorem r71 (s : Int) (e : Int) (hp : (0 ≤ s ∧ s < 9223372036854775808) ∧ 0 ≤ e ∧ e ≤ 64) : Body ⟨Tryd.prog, Sof (P := Tryd.prog) [], Pof (P := Tryd.prog) [], H.nil.base, 300⟩ none1 Tryd.f71 [I s, I e] .nil (.bool (bi s e.toNat), .nil) := by
  obtain ⟨⟨h0, h1⟩, h2, h3⟩ := hp
  obtain ⟨a, rfl⟩ : ∃ a : Nat, s = a := ⟨s.toNat, by omega⟩
  obtain ⟨n, rfl⟩ : ∃ n : Nat, e = n := ⟨e.toNat, by omega⟩
  have ev0 := i_shr (a := a) (n := n) (by omega)
  have ev1 := i_bit (a := a) (n := n) (by omega)
  simp only [bi, Int.toNat_natCast]
  cases hb : a.testBit n
  · rw [hb] at ev1
    have ev1 : IntKind.i64.wrap ((BitVec.ofInt IntKind.i64.bits ((a >>> n : Nat) : Int) &&& BitVec.ofInt IntKind.i64.bits 1).toNat : Int) = 0 := ev1
    refine body_s ([Ans.o (Orc.val 7 (I (↑(a >>> n) : Int)) H.nil), Ans.o (Orc.val 8 (I (↑false.toNat : Int)) H.nil), Ans.o Orc.dflt]) (aBin Tryd.prog BinOp.shr (3 : Nat) (I (↑a : Int)) (I (↑n : Int)) = some (I (↑(a >>> n) : Int)) ∧ aBin Tryd.prog BinOp.and (3 : Nat) (I (↑(a >>> n) : Int)) (I 1) = some (I 0) ∧ (AV.bool false, H.mk [] [] []) = (AV.bool false, H.mk [] [] [])) (by kernel_rfl) ?_
    refine ⟨by first | exact told_shr (by first | exact Int.natCast_nonneg _ | omega) (by with_reducible assumption) | exact told_shr (by omega) rfl, ?_⟩
    refine ⟨told_and (by with_reducible assumption), ?_⟩
    first | with_reducible rfl | (refine bleaf_t ?_; omega) | (refine bleaf_f ?_; omega) | (refine ileaf ?_; omega) | rfl | (exfalso; omega)
  · rw [hb] at ev1
    have ev1 : IntKind.i64.wrap ((BitVec.ofInt IntKind.i64.bits ((a >>> n : Nat) : Int) &&& BitVec.ofInt IntKind.i64.bits 1).toNat : Int) = 1 := ev1
    refine body_s ([Ans.o (Orc.val 7 (I (↑(a >>> n) : Int)) H.nil), Ans.o (Orc.val 8 (I (↑true.toNat : Int)) H.nil), Ans.o Orc.dflt]) (aBin Tryd.prog BinOp.shr (3 : Nat) (I (↑a : Int)) (I (↑n : Int)) = some (I (↑(a >>> n) : Int)) ∧ aBin Tryd.prog BinOp.and (3 : Nat) (I (↑(a >>> n) : Int)) (I 1) = some (I 1) ∧ (AV.bool true, H.mk [] [] []) = (AV.bool true, H.mk [] [] [])) (by kernel_rfl) ?_
    refine ⟨by first | exact told_shr (by first | exact Int.natCast_nonneg _ | omega) (by with_reducible assumption) | exact told_shr (by omega) rfl, ?_⟩
    refine ⟨told_and (by with_reducible assumption), ?_⟩
    first | with_reducible rfl | (refine bleaf_t ?_; omega) | (refine bleaf_f ?_; omega) | (refine ileaf ?_; omega) | rfl | (exfalso; omega)
noncomputable def c71 : PCtr Tryd.prog := sctr ok71 (X := Int × Int) (fun x => [I x.1, I x.2]) (fun x => (0 ≤ x.1 ∧ x.1 < 9223372036854775808) ∧ 0 ≤ x.2 ∧ x.2 ≤ 64) (fun x => .bool (bi x.1 x.2.toNat)) (by intro x y e _ _; simp at e; simp [e]) (fun x => by simp [AV.bnds, AV.bnd, AV.wk, rm_wk_bnd]) (fun x => by first | rfl | (simp [AV.bnd, rm_wk_bnd]; done)  | (simp [AV.bnd, AV.bnds, rm_wk_bnd]; done) | simp [AV.bnd, AV.bnds, Room.bnd, rm_wk_bnd]) (fun x hx => ⟨_, _, _, .nil, r71 (x.1) (x.2) hx⟩)
abbrev sz (g : List Int) : Prop := 1 ≤ g.length ∧ g.length ≤ 6
abbrev q1 (g : List Int) (i : Nat) : Prop := 0 ≤ at_ g i ∧ at_ g i < ((2 ^ g.length : Nat) : Int)
abbrev rg (g : List Int) : Prop := ∀ i, i < g.length → q1 g i
abbrev q2 (g : List Int) (i j : Nat) : Prop := bi (at_ g i) j = bi (at_ g j) i ∧ (i = j → bi (at_ g i) j = false)
abbrev Gr (g : List Int) : Prop := sz g ∧ rg g ∧ ∀ i, i < g.length → ∀ j, j < g.length → q2 g i j
open Classical in
noncomputable def grB (g : List Int) : Bool := decide (Gr g)
theorem grB_t {g : List Int} (h : Gr g) : grB g = true := by simp only [grB, decide_eq_true_eq]; exact h
theorem grB_f {g : List Int} (h : ¬ Gr g) : grB g = false := by simp only [grB, decide_eq_false_iff_not]; exact h
theorem pw_64 {n : Nat} (h : n ≤ 6) : 2 ^ n ≤ 64 := Nat.le_trans (Nat.pow_le_pow_right (by decide) h) (by decide : 2 ^ 6 ≤ 64)
theorem rg_lt {g : List Int} (h : sz g) (k : rg g) {i : Nat} (hi : i < g.length) : 0 ≤ at_ g i ∧ at_ g i < 64 := by
  have := k i hi
  have := pw_64 h.2
  omega
abbrev o67a (g : List Int) (r : Room) : List Out :=
  [.mk Unit .ret [2] (fun _ => ¬ rg g) (fun _ => [.bool false]) (fun _ => .nil) (fun _ => []), .mk Unit (.exit 0) [0] (fun _ => rg g) (fun _ => [ls g r]) (fun _ => .nil) (fun _ => [])]
theorem simp67a : allSimpleM none1 (loopAt Tryd.f67 0) = true := by kernel_rfl
theorem lp67a (g : List Int) (r : Room) (h1 : sz g) (h2 : rok g r) :
    LoopS (En6 []) (loopAt Tryd.f67 0) 65 [0, 11, 12, 13] [ls g r, ls g r, I g.length, I 0] .nil (o67a g r) := by
  have hR : Rests (En6 []) none1 := rests mixed .nil
  have ev0 := pw_shl (n := g.length) (by have := h1.2; omega)
  have hl := h1.2
  refine loop_s hR simp67a none (by intro _ h; cases h) (fun j vs h => h = .nil ∧ vs = [ls g r, ls g r, I g.length, I j] ∧ ∀ i, i < j → q1 g i) g.length ⟨rfl, rfl, fun i hi => absurd hi (by omega)⟩ (by intro _ h; cases h) ?_
  rintro j vs h hj ⟨rfl, rfl, ha⟩
  by_cases hz : (j : Int) < g.length
  · have hz' : j < g.length := by omega
    have hr := rok_idx h2 hz'
    by_cases c1 : at_ g j < 0
    · have hn : ¬ rg g := fun h => by have := (h j hz').1; omega
      refine ⟨[Ans.o (Orc.b true), Ans.o (Orc.val 15 (AV.cptr (ints (List.drop j g))) H.nil), Ans.o (Orc.val 16 (I (g.getD j i0)) H.nil), Ans.o (Orc.b true)], fun u => of_eq ((↑j : Int) < (↑g.length : Int) ∧ aIndexAddr Tryd.prog 22 (ls g r) (I (↑j : Int)) = some (AV.cptr (ints (List.drop j g))) ∧ aLoad Tryd.prog 3 (ints (List.drop j g)) = some (I (g.getD j i0)) ∧ g.getD j i0 < (0 : Int) ∧ (65 : Nat) = (65 : Nat) ∧ hits [Out.mk Unit AX.ret [2] (fun x => ¬rg g) (fun x => [AV.bool false]) (fun x => H.nil) fun x => [], Out.mk Unit (AX.exit 0) [0] (fun x => rg g) (fun x => [ls g r]) (fun x => H.nil) fun x => []] AX.ret [ls g r, u (1 : Nat), AV.bool false, u (3 : Nat), I (g.getD j i0), u (5 : Nat), u (6 : Nat), u (7 : Nat), u (8 : Nat), u (9 : Nat), u (10 : Nat), ls g r, I (↑g.length : Int), I (↑j : Int), AV.bool true, AV.cptr (ints (List.drop j g)), I (g.getD j i0), I (g.getD j i0), AV.bool true, AV.bool true, AV.tup [], AV.tup [], AV.tup [], AV.tup [], AV.tup [], AV.bool true, u (26 : Nat), u (27 : Nat), u (28 : Nat), u (29 : Nat), u (30 : Nat), u (31 : Nat), u (32 : Nat), u (33 : Nat), u (34 : Nat), u (35 : Nat), u (36 : Nat), u (37 : Nat), u (38 : Nat), u (39 : Nat), u (40 : Nat), u (41 : Nat), u (42 : Nat), u (43 : Nat), u (44 : Nat), u (45 : Nat), u (46 : Nat), u (47 : Nat), u (48 : Nat), u (49 : Nat), u (50 : Nat), u (51 : Nat), u (52 : Nat), u (53 : Nat), u (54 : Nat), u (55 : Nat), u (56 : Nat), u (57 : Nat), u (58 : Nat), u (59 : Nat), u (60 : Nat), u (61 : Nat), u (62 : Nat), u (63 : Nat), u (64 : Nat)] (H.mk [] [] [])) (by kernel_rfl) ?_⟩
      refine ⟨by first | with_reducible assumption | omega | assumption, ?_⟩
      refine ⟨by first | exact ix_ints (by kernel_rfl) (by omega) (by assumption) | exact ix_ints (by kernel_rfl) (by omega) (rok_idx (by assumption) (by omega)), ?_⟩
      refine ⟨by first | exact ld_ints (by kernel_rfl) (by kernel_rfl) (by omega) | exact ldm_ints (by kernel_rfl) (by kernel_rfl) (by first | omega | (simp; omega)), ?_⟩
      refine ⟨by first | with_reducible assumption | omega | assumption, ?_⟩
      refine ⟨by first | with_reducible assumption | omega | assumption, ?_⟩
      exact .inl ⟨(), hn, rfl, rfl, rfl⟩
    · have c1 : 0 ≤ at_ g j := by omega
      by_cases c2 : ((2 ^ g.length : Nat) : Int) ≤ at_ g j
      · have hn : ¬ rg g := fun h => by have := (h j hz').2; omega
        refine ⟨[Ans.o (Orc.b true), Ans.o (Orc.val 15 (AV.cptr (ints (List.drop j g))) H.nil), Ans.o (Orc.val 16 (I (g.getD j i0)) H.nil), Ans.o (Orc.b false), Ans.o (Orc.val 23 (I (↑((2 : Nat) ^ g.length) : Int)) H.nil), Ans.o (Orc.b true)], fun u => of_eq ((↑j : Int) < (↑g.length : Int) ∧ aIndexAddr Tryd.prog 22 (ls g r) (I (↑j : Int)) = some (AV.cptr (ints (List.drop j g))) ∧ aLoad Tryd.prog 3 (ints (List.drop j g)) = some (I (g.getD j i0)) ∧ (0 : Int) ≤ g.getD j i0 ∧ aBin Tryd.prog BinOp.shl (3 : Nat) (I 1) (I (↑g.length : Int)) = some (I (↑((2 : Nat) ^ g.length) : Int)) ∧ (↑((2 : Nat) ^ g.length) : Int) ≤ g.getD j i0 ∧ (65 : Nat) = (65 : Nat) ∧ hits [Out.mk Unit AX.ret [2] (fun x => ¬rg g) (fun x => [AV.bool false]) (fun x => H.nil) fun x => [], Out.mk Unit (AX.exit 0) [0] (fun x => rg g) (fun x => [ls g r]) (fun x => H.nil) fun x => []] AX.ret [ls g r, u (1 : Nat), AV.bool false, u (3 : Nat), I (g.getD j i0), u (5 : Nat), u (6 : Nat), u (7 : Nat), u (8 : Nat), u (9 : Nat), u (10 : Nat), ls g r, I (↑g.length : Int), I (↑j : Int), AV.bool true, AV.cptr (ints (List.drop j g)), I (g.getD j i0), I (g.getD j i0), AV.bool false, AV.bool false, I (g.getD j i0), ls g r, I (↑g.length : Int), I (↑((2 : Nat) ^ g.length) : Int), AV.bool true, AV.bool true, u (26 : Nat), u (27 : Nat), u (28 : Nat), u (29 : Nat), u (30 : Nat), u (31 : Nat), u (32 : Nat), u (33 : Nat), u (34 : Nat), u (35 : Nat), u (36 : Nat), u (37 : Nat), u (38 : Nat), u (39 : Nat), u (40 : Nat), u (41 : Nat), u (42 : Nat), u (43 : Nat), u (44 : Nat), u (45 : Nat), u (46 : Nat), u (47 : Nat), u (48 : Nat), u (49 : Nat), u (50 : Nat), u (51 : Nat), u (52 : Nat), u (53 : Nat), u (54 : Nat), u (55 : Nat), u (56 : Nat), u (57 : Nat), u (58 : Nat), u (59 : Nat), u (60 : Nat), u (61 : Nat), u (62 : Nat), u (63 : Nat), u (64 : Nat)] (H.mk [] [] [])) (by kernel_rfl) ?_⟩
        refine ⟨by first | with_reducible assumption | omega | assumption, ?_⟩
        refine ⟨by first | exact ix_ints (by kernel_rfl) (by omega) (by assumption) | exact ix_ints (by kernel_rfl) (by omega) (rok_idx (by assumption) (by omega)), ?_⟩
        refine ⟨by first | exact ld_ints (by kernel_rfl) (by kernel_rfl) (by omega) | exact ldm_ints (by kernel_rfl) (by kernel_rfl) (by first | omega | (simp; omega)), ?_⟩
        refine ⟨by first | with_reducible assumption | omega | assumption, ?_⟩
        refine ⟨by first | exact told_shl (by first | exact Int.natCast_nonneg _ | omega) (by with_reducible assumption) | exact told_shl (by omega) rfl, ?_⟩
        refine ⟨by first | with_reducible assumption | omega | assumption, ?_⟩
        refine ⟨by first | with_reducible assumption | omega | assumption, ?_⟩
        exact .inl ⟨(), hn, rfl, rfl, rfl⟩
      · have c2 : at_ g j < ((2 ^ g.length : Nat) : Int) := by omega
        have hk := all_succ (q := q1 g) ha ⟨c1, c2⟩
        refine ⟨[Ans.o (Orc.b true), Ans.o (Orc.val 15 (AV.cptr (ints (List.drop j g))) H.nil), Ans.o (Orc.val 16 (I (g.getD j i0)) H.nil), Ans.o (Orc.b false), Ans.o (Orc.val 23 (I (↑((2 : Nat) ^ g.length) : Int)) H.nil), Ans.o (Orc.b false)], fun u => of_eq ((↑j : Int) < (↑g.length : Int) ∧ aIndexAddr Tryd.prog 22 (ls g r) (I (↑j : Int)) = some (AV.cptr (ints (List.drop j g))) ∧ aLoad Tryd.prog 3 (ints (List.drop j g)) = some (I (g.getD j i0)) ∧ (0 : Int) ≤ g.getD j i0 ∧ aBin Tryd.prog BinOp.shl (3 : Nat) (I 1) (I (↑g.length : Int)) = some (I (↑((2 : Nat) ^ g.length) : Int)) ∧ g.getD j i0 < (↑((2 : Nat) ^ g.length) : Int) ∧ IntKind.i64.wrap ((↑j : Int) + (1 : Int)) = (↑j : Int) + (1 : Int) ∧ (65 : Nat) = (65 : Nat) ∧ j < g.length ∧ Keep (H.mk [] [] [] = H.mk [] [] [] ∧ [ls g r, ls g r, I (↑g.length : Int), I ((↑j : Int) + (1 : Int))] = [ls g r, ls g r, I (↑g.length : Int), I (↑(j + (1 : Nat)) : Int)] ∧ ∀ (i : Nat), i < j + (1 : Nat) → q1 g i)) (by kernel_rfl) ?_⟩
        refine ⟨by first | with_reducible assumption | omega | assumption, ?_⟩
        refine ⟨by first | exact ix_ints (by kernel_rfl) (by omega) (by assumption) | exact ix_ints (by kernel_rfl) (by omega) (rok_idx (by assumption) (by omega)), ?_⟩
        refine ⟨by first | exact ld_ints (by kernel_rfl) (by kernel_rfl) (by omega) | exact ldm_ints (by kernel_rfl) (by kernel_rfl) (by first | omega | (simp; omega)), ?_⟩
        refine ⟨by first | with_reducible assumption | omega | assumption, ?_⟩
        refine ⟨by first | exact told_shl (by first | exact Int.natCast_nonneg _ | omega) (by with_reducible assumption) | exact told_shl (by omega) rfl, ?_⟩
        refine ⟨by first | with_reducible assumption | omega | assumption, ?_⟩
        refine ⟨wr _ (by omega) (by omega), ?_⟩
        refine ⟨by first | with_reducible assumption | omega | assumption, ?_⟩
        refine ⟨by first | with_reducible assumption | omega | assumption, ?_⟩
        exact ⟨rfl, rfl, hk⟩
  · have hz : (g.length : Int) ≤ j := by omega
    have hj' : j = g.length := by omega
    subst hj'
    refine ⟨[Ans.o (Orc.b false)], fun u => of_eq ((↑g.length : Int) ≤ (↑g.length : Int) ∧ (65 : Nat) = (65 : Nat) ∧ hits [Out.mk Unit AX.ret [2] (fun x => ¬rg g) (fun x => [AV.bool false]) (fun x => H.nil) fun x => [], Out.mk Unit (AX.exit 0) [0] (fun x => rg g) (fun x => [ls g r]) (fun x => H.nil) fun x => []] (AX.exit 0) [ls g r, u (1 : Nat), u (2 : Nat), u (3 : Nat), u (4 : Nat), u (5 : Nat), u (6 : Nat), u (7 : Nat), u (8 : Nat), u (9 : Nat), u (10 : Nat), ls g r, I (↑g.length : Int), I (↑g.length : Int), AV.bool false, u (15 : Nat), u (16 : Nat), u (17 : Nat), u (18 : Nat), u (19 : Nat), u (20 : Nat), u (21 : Nat), u (22 : Nat), u (23 : Nat), u (24 : Nat), u (25 : Nat), u (26 : Nat), u (27 : Nat), u (28 : Nat), u (29 : Nat), u (30 : Nat), u (31 : Nat), u (32 : Nat), u (33 : Nat), u (34 : Nat), u (35 : Nat), u (36 : Nat), u (37 : Nat), u (38 : Nat), u (39 : Nat), u (40 : Nat), u (41 : Nat), u (42 : Nat), u (43 : Nat), u (44 : Nat), u (45 : Nat), u (46 : Nat), u (47 : Nat), u (48 : Nat), u (49 : Nat), u (50 : Nat), u (51 : Nat), u (52 : Nat), u (53 : Nat), u (54 : Nat), u (55 : Nat), u (56 : Nat), u (57 : Nat), u (58 : Nat), u (59 : Nat), u (60 : Nat), u (61 : Nat), u (62 : Nat), u (63 : Nat), u (64 : Nat)] (H.mk [] [] [])) (by kernel_rfl) ?_⟩
    refine ⟨by first | with_reducible assumption | omega | assumption, ?_⟩
    refine ⟨by first | with_reducible assumption | omega | assumption, ?_⟩
    exact .inr (.inl ⟨(), ha, rfl, rfl, rfl⟩)
abbrev q3 (g : List Int) (i : Nat) : Prop := ∀ j, j < g.length → q2 g i j
abbrev o67c (g : List Int) (r : Room) (i : Nat) : List Out :=
  [.mk Unit .ret [2] (fun _ => ¬ q3 g i) (fun _ => [.bool false]) (fun _ => .nil) (fun _ => []), .mk Unit (.exit 4) [0, 28, 29] (fun _ => q3 g i) (fun _ => [ls g r, I g.length, I i]) (fun _ => .nil) (fun _ => [])]
theorem simp67c : allSimpleM none1 (loopAt Tryd.f67 2) = true := by kernel_rfl
theorem lp67c (g : List Int) (r : Room) (h1 : sz g) (h2 : rok g r) (h3 : rg g) (i : Nat) (hi : i < g.length) :
    LoopS (En6 [c71.to]) (loopAt Tryd.f67 2) 65 [0, 5, 28, 29, 33, 34] [ls g r, I i, I g.length, I i, I g.length, I 0] .nil (o67c g r i) := by
  have hR : Rests (En6 [c71.to]) none1 := rests mixed (.pure _ .nil)
  have hl := h1.2
  have hri := rok_idx h2 hi
  have bd := fun {i} hi => rg_lt h1 h3 (i := i) hi
  refine loop_s hR simp67c none (by intro _ h; cases h) (fun j vs h => h = .nil ∧ vs = [ls g r, I i, I g.length, I i, I g.length, I j] ∧ ∀ k, k < j → q2 g i k) g.length ⟨rfl, rfl, fun i hi => absurd hi (by omega)⟩ (by intro _ h; cases h) ?_
  rintro j vs h hj ⟨rfl, rfl, ha⟩
  by_cases hz : (j : Int) < g.length
  · have hz' : j < g.length := by omega
    have p1 : (0 ≤ at_ g i ∧ at_ g i < 9223372036854775808) ∧ 0 ≤ (j : Int) ∧ (j : Int) ≤ 64 := ⟨⟨(bd hi).1, by have := (bd hi).2; omega⟩, by omega, by omega⟩
    have p2 : (0 ≤ at_ g j ∧ at_ g j < 9223372036854775808) ∧ 0 ≤ (i : Int) ∧ (i : Int) ≤ 64 := ⟨⟨(bd hz').1, by have := (bd hz').2; omega⟩, by omega, by omega⟩
    cases b1 : bi (at_ g i) ((j : Int)).toNat
    · cases b2 : bi (at_ g j) ((i : Int)).toNat
      · have hk := all_succ (q := q2 g i) ha ⟨by simpa using b1.trans b2.symm, fun _ => by simpa using b1⟩
        by_cases e : (i : Int) = j
        · refine ⟨[Ans.o (Orc.b true), Ans.o (Orc.val 39 (AV.cptr (ints (List.drop i g))) H.nil), Ans.o (Orc.val 40 (I (g.getD i i0)) H.nil), Ans.o (Orc.val 42 (AV.bool false) (H.mk [] [] [])), Ans.o (Orc.val 45 (AV.cptr (ints (List.drop j g))) H.nil), Ans.o (Orc.val 46 (I (g.getD j i0)) H.nil), Ans.o (Orc.val 48 (AV.bool false) (H.mk [] [] [])), Ans.o (Orc.b true), Ans.o (Orc.val 57 (AV.cptr (ints (List.drop i g))) H.nil), Ans.o (Orc.val 58 (I (g.getD i i0)) H.nil), Ans.o (Orc.val 60 (AV.bool false) (H.mk [] [] []))], fun u => of_eq ((↑j : Int) < (↑g.length : Int) ∧ aIndexAddr Tryd.prog 22 (ls g r) (I (↑i : Int)) = some (AV.cptr (ints (List.drop i g))) ∧ aLoad Tryd.prog 3 (ints (List.drop i g)) = some (I (g.getD i i0)) ∧ aCall (Sof [c71.to]) (AV.fn (Fn.func 71) [] []) [I (g.getD i i0), I (↑j : Int)] (H.mk [] [] []) = some (AV.bool false, H.mk [] [] []) ∧ aIndexAddr Tryd.prog 22 (ls g r) (I (↑j : Int)) = some (AV.cptr (ints (List.drop j g))) ∧ aLoad Tryd.prog 3 (ints (List.drop j g)) = some (I (g.getD j i0)) ∧ aCall (Sof [c71.to]) (AV.fn (Fn.func 71) [] []) [I (g.getD j i0), I (↑i : Int)] (H.mk [] [] []) = some (AV.bool false, H.mk [] [] []) ∧ (↑i : Int) = (↑j : Int) ∧ aIndexAddr Tryd.prog 22 (ls g r) (I (↑i : Int)) = some (AV.cptr (ints (List.drop i g))) ∧ aLoad Tryd.prog 3 (ints (List.drop i g)) = some (I (g.getD i i0)) ∧ aCall (Sof [c71.to]) (AV.fn (Fn.func 71) [] []) [I (g.getD i i0), I (↑j : Int)] (H.mk [] [] []) = some (AV.bool false, H.mk [] [] []) ∧ IntKind.i64.wrap ((↑j : Int) + (1 : Int)) = (↑j : Int) + (1 : Int) ∧ (65 : Nat) = (65 : Nat) ∧ j < g.length ∧ Keep (H.mk [] [] [] = H.mk [] [] [] ∧ [ls g r, I (↑i : Int), I (↑g.length : Int), I (↑i : Int), I (↑g.length : Int), I ((↑j : Int) + (1 : Int))] = [ls g r, I (↑i : Int), I (↑g.length : Int), I (↑i : Int), I (↑g.length : Int), I (↑(j + (1 : Nat)) : Int)] ∧ ∀ (k : Nat), k < j + (1 : Nat) → q2 g i k)) (by kernel_rfl) ?_⟩
          refine ⟨by first | with_reducible assumption | omega | assumption, ?_⟩
          refine ⟨by first | exact ix_ints (by kernel_rfl) (by omega) (by assumption) | exact ix_ints (by kernel_rfl) (by omega) (rok_idx (by assumption) (by omega)), ?_⟩
          refine ⟨by first | exact ld_ints (by kernel_rfl) (by kernel_rfl) (by omega) | exact ldm_ints (by kernel_rfl) (by kernel_rfl) (by first | omega | (simp; omega)), ?_⟩
          refine ⟨by first | exact acall_b (acall_hit (c := c71.to) (at_ g i, (j : Int)) _ rfl p1) b1 | exact acall_b (acall_hit (c := c71.to) (at_ g j, (i : Int)) _ rfl p2) b2, ?_⟩
          refine ⟨by first | exact ix_ints (by kernel_rfl) (by omega) (by assumption) | exact ix_ints (by kernel_rfl) (by omega) (rok_idx (by assumption) (by omega)), ?_⟩
          refine ⟨by first | exact ld_ints (by kernel_rfl) (by kernel_rfl) (by omega) | exact ldm_ints (by kernel_rfl) (by kernel_rfl) (by first | omega | (simp; omega)), ?_⟩
          refine ⟨by first | exact acall_b (acall_hit (c := c71.to) (at_ g i, (j : Int)) _ rfl p1) b1 | exact acall_b (acall_hit (c := c71.to) (at_ g j, (i : Int)) _ rfl p2) b2, ?_⟩
          refine ⟨by first | with_reducible assumption | omega | assumption, ?_⟩
          refine ⟨by first | exact ix_ints (by kernel_rfl) (by omega) (by assumption) | exact ix_ints (by kernel_rfl) (by omega) (rok_idx (by assumption) (by omega)), ?_⟩
          refine ⟨by first | exact ld_ints (by kernel_rfl) (by kernel_rfl) (by omega) | exact ldm_ints (by kernel_rfl) (by kernel_rfl) (by first | omega | (simp; omega)), ?_⟩
          refine ⟨by first | exact acall_b (acall_hit (c := c71.to) (at_ g i, (j : Int)) _ rfl p1) b1 | exact acall_b (acall_hit (c := c71.to) (at_ g j, (i : Int)) _ rfl p2) b2, ?_⟩
          refine ⟨wr _ (by omega) (by omega), ?_⟩
          refine ⟨by first | with_reducible assumption | omega | assumption, ?_⟩
          refine ⟨by first | with_reducible assumption | omega | assumption, ?_⟩
          exact ⟨rfl, rfl, hk⟩
        · have e : (i : Int) ≠ j := e
          refine ⟨[Ans.o (Orc.b true), Ans.o (Orc.val 39 (AV.cptr (ints (List.drop i g))) H.nil), Ans.o (Orc.val 40 (I (g.getD i i0)) H.nil), Ans.o (Orc.val 42 (AV.bool false) (H.mk [] [] [])), Ans.o (Orc.val 45 (AV.cptr (ints (List.drop j g))) H.nil), Ans.o (Orc.val 46 (I (g.getD j i0)) H.nil), Ans.o (Orc.val 48 (AV.bool false) (H.mk [] [] [])), Ans.o (Orc.b false)], fun u => of_eq ((↑j : Int) < (↑g.length : Int) ∧ aIndexAddr Tryd.prog 22 (ls g r) (I (↑i : Int)) = some (AV.cptr (ints (List.drop i g))) ∧ aLoad Tryd.prog 3 (ints (List.drop i g)) = some (I (g.getD i i0)) ∧ aCall (Sof [c71.to]) (AV.fn (Fn.func 71) [] []) [I (g.getD i i0), I (↑j : Int)] (H.mk [] [] []) = some (AV.bool false, H.mk [] [] []) ∧ aIndexAddr Tryd.prog 22 (ls g r) (I (↑j : Int)) = some (AV.cptr (ints (List.drop j g))) ∧ aLoad Tryd.prog 3 (ints (List.drop j g)) = some (I (g.getD j i0)) ∧ aCall (Sof [c71.to]) (AV.fn (Fn.func 71) [] []) [I (g.getD j i0), I (↑i : Int)] (H.mk [] [] []) = some (AV.bool false, H.mk [] [] []) ∧ (↑i : Int) ≠ (↑j : Int) ∧ IntKind.i64.wrap ((↑j : Int) + (1 : Int)) = (↑j : Int) + (1 : Int) ∧ (65 : Nat) = (65 : Nat) ∧ j < g.length ∧ Keep (H.mk [] [] [] = H.mk [] [] [] ∧ [ls g r, I (↑i : Int), I (↑g.length : Int), I (↑i : Int), I (↑g.length : Int), I ((↑j : Int) + (1 : Int))] = [ls g r, I (↑i : Int), I (↑g.length : Int), I (↑i : Int), I (↑g.length : Int), I (↑(j + (1 : Nat)) : Int)] ∧ ∀ (k : Nat), k < j + (1 : Nat) → q2 g i k)) (by kernel_rfl) ?_⟩
          refine ⟨by first | with_reducible assumption | omega | assumption, ?_⟩
          refine ⟨by first | exact ix_ints (by kernel_rfl) (by omega) (by assumption) | exact ix_ints (by kernel_rfl) (by omega) (rok_idx (by assumption) (by omega)), ?_⟩
          refine ⟨by first | exact ld_ints (by kernel_rfl) (by kernel_rfl) (by omega) | exact ldm_ints (by kernel_rfl) (by kernel_rfl) (by first | omega | (simp; omega)), ?_⟩
          refine ⟨by first | exact acall_b (acall_hit (c := c71.to) (at_ g i, (j : Int)) _ rfl p1) b1 | exact acall_b (acall_hit (c := c71.to) (at_ g j, (i : Int)) _ rfl p2) b2, ?_⟩
          refine ⟨by first | exact ix_ints (by kernel_rfl) (by omega) (by assumption) | exact ix_ints (by kernel_rfl) (by omega) (rok_idx (by assumption) (by omega)), ?_⟩
          refine ⟨by first | exact ld_ints (by kernel_rfl) (by kernel_rfl) (by omega) | exact ldm_ints (by kernel_rfl) (by kernel_rfl) (by first | omega | (simp; omega)), ?_⟩
          refine ⟨by first | exact acall_b (acall_hit (c := c71.to) (at_ g i, (j : Int)) _ rfl p1) b1 | exact acall_b (acall_hit (c := c71.to) (at_ g j, (i : Int)) _ rfl p2) b2, ?_⟩
          refine ⟨by first | with_reducible assumption | omega | assumption, ?_⟩
          refine ⟨wr _ (by omega) (by omega), ?_⟩
          refine ⟨by first | with_reducible assumption | omega | assumption, ?_⟩
          refine ⟨by first | with_reducible assumption | omega | assumption, ?_⟩
          exact ⟨rfl, rfl, hk⟩
      · have hn : ¬ q3 g i := fun h => by have := (h j hz').1; simp only [Int.toNat_natCast] at b1 b2; rw [b1, b2] at this; cases this
        refine ⟨[Ans.o (Orc.b true), Ans.o (Orc.val 39 (AV.cptr (ints (List.drop i g))) H.nil), Ans.o (Orc.val 40 (I (g.getD i i0)) H.nil), Ans.o (Orc.val 42 (AV.bool false) (H.mk [] [] [])), Ans.o (Orc.val 45 (AV.cptr (ints (List.drop j g))) H.nil), Ans.o (Orc.val 46 (I (g.getD j i0)) H.nil), Ans.o (Orc.val 48 (AV.bool true) (H.mk [] [] []))], fun u => of_eq ((↑j : Int) < (↑g.length : Int) ∧ aIndexAddr Tryd.prog 22 (ls g r) (I (↑i : Int)) = some (AV.cptr (ints (List.drop i g))) ∧ aLoad Tryd.prog 3 (ints (List.drop i g)) = some (I (g.getD i i0)) ∧ aCall (Sof [c71.to]) (AV.fn (Fn.func 71) [] []) [I (g.getD i i0), I (↑j : Int)] (H.mk [] [] []) = some (AV.bool false, H.mk [] [] []) ∧ aIndexAddr Tryd.prog 22 (ls g r) (I (↑j : Int)) = some (AV.cptr (ints (List.drop j g))) ∧ aLoad Tryd.prog 3 (ints (List.drop j g)) = some (I (g.getD j i0)) ∧ aCall (Sof [c71.to]) (AV.fn (Fn.func 71) [] []) [I (g.getD j i0), I (↑i : Int)] (H.mk [] [] []) = some (AV.bool true, H.mk [] [] []) ∧ (65 : Nat) = (65 : Nat) ∧ hits [Out.mk Unit AX.ret [2] (fun x => ¬q3 g i) (fun x => [AV.bool false]) (fun x => H.nil) fun x => [], Out.mk Unit (AX.exit 4) [0, 28, 29] (fun x => q3 g i) (fun x => [ls g r, I (↑g.length : Int), I (↑i : Int)]) (fun x => H.nil) fun x => []] AX.ret [ls g r, u (1 : Nat), AV.bool false, u (3 : Nat), u (4 : Nat), I (↑i : Int), I (↑j : Int), u (7 : Nat), u (8 : Nat), u (9 : Nat), u (10 : Nat), u (11 : Nat), u (12 : Nat), u (13 : Nat), u (14 : Nat), u (15 : Nat), u (16 : Nat), u (17 : Nat), u (18 : Nat), u (19 : Nat), u (20 : Nat), u (21 : Nat), u (22 : Nat), u (23 : Nat), u (24 : Nat), u (25 : Nat), u (26 : Nat), u (27 : Nat), I (↑g.length : Int), I (↑i : Int), u (30 : Nat), u (31 : Nat), u (32 : Nat), I (↑g.length : Int), I (↑j : Int), AV.bool true, I (↑j : Int), ls g r, I (↑i : Int), AV.cptr (ints (List.drop i g)), I (g.getD i i0), I (↑j : Int), AV.bool false, ls g r, I (↑j : Int), AV.cptr (ints (List.drop j g)), I (g.getD j i0), I (↑i : Int), AV.bool true, AV.bool true, AV.bool true, AV.tup [], AV.tup [], AV.tup [], AV.tup [], AV.tup [], AV.tup [], AV.tup [], AV.tup [], AV.tup [], AV.tup [], AV.tup [], AV.bool true, u (63 : Nat), u (64 : Nat)] (H.mk [] [] [])) (by kernel_rfl) ?_⟩
        refine ⟨by first | with_reducible assumption | omega | assumption, ?_⟩
        refine ⟨by first | exact ix_ints (by kernel_rfl) (by omega) (by assumption) | exact ix_ints (by kernel_rfl) (by omega) (rok_idx (by assumption) (by omega)), ?_⟩
        refine ⟨by first | exact ld_ints (by kernel_rfl) (by kernel_rfl) (by omega) | exact ldm_ints (by kernel_rfl) (by kernel_rfl) (by first | omega | (simp; omega)), ?_⟩
        refine ⟨by first | exact acall_b (acall_hit (c := c71.to) (at_ g i, (j : Int)) _ rfl p1) b1 | exact acall_b (acall_hit (c := c71.to) (at_ g j, (i : Int)) _ rfl p2) b2, ?_⟩
        refine ⟨by first | exact ix_ints (by kernel_rfl) (by omega) (by assumption) | exact ix_ints (by kernel_rfl) (by omega) (rok_idx (by assumption) (by omega)), ?_⟩
        refine ⟨by first | exact ld_ints (by kernel_rfl) (by kernel_rfl) (by omega) | exact ldm_ints (by kernel_rfl) (by kernel_rfl) (by first | omega | (simp; omega)), ?_⟩
        refine ⟨by first | exact acall_b (acall_hit (c := c71.to) (at_ g i, (j : Int)) _ rfl p1) b1 | exact acall_b (acall_hit (c := c71.to) (at_ g j, (i : Int)) _ rfl p2) b2, ?_⟩
        refine ⟨by first | with_reducible assumption | omega | assumption, ?_⟩
        exact .inl ⟨(), hn, rfl, rfl, rfl⟩
    · cases b2 : bi (at_ g j) ((i : Int)).toNat
      · have hn : ¬ q3 g i := fun h => by have := (h j hz').1; simp only [Int.toNat_natCast] at b1 b2; rw [b1, b2] at this; cases this
        refine ⟨[Ans.o (Orc.b true), Ans.o (Orc.val 39 (AV.cptr (ints (List.drop i g))) H.nil), Ans.o (Orc.val 40 (I (g.getD i i0)) H.nil), Ans.o (Orc.val 42 (AV.bool true) (H.mk [] [] [])), Ans.o (Orc.val 45 (AV.cptr (ints (List.drop j g))) H.nil), Ans.o (Orc.val 46 (I (g.getD j i0)) H.nil), Ans.o (Orc.val 48 (AV.bool false) (H.mk [] [] []))], fun u => of_eq ((↑j : Int) < (↑g.length : Int) ∧ aIndexAddr Tryd.prog 22 (ls g r) (I (↑i : Int)) = some (AV.cptr (ints (List.drop i g))) ∧ aLoad Tryd.prog 3 (ints (List.drop i g)) = some (I (g.getD i i0)) ∧ aCall (Sof [c71.to]) (AV.fn (Fn.func 71) [] []) [I (g.getD i i0), I (↑j : Int)] (H.mk [] [] []) = some (AV.bool true, H.mk [] [] []) ∧ aIndexAddr Tryd.prog 22 (ls g r) (I (↑j : Int)) = some (AV.cptr (ints (List.drop j g))) ∧ aLoad Tryd.prog 3 (ints (List.drop j g)) = some (I (g.getD j i0)) ∧ aCall (Sof [c71.to]) (AV.fn (Fn.func 71) [] []) [I (g.getD j i0), I (↑i : Int)] (H.mk [] [] []) = some (AV.bool false, H.mk [] [] []) ∧ (65 : Nat) = (65 : Nat) ∧ hits [Out.mk Unit AX.ret [2] (fun x => ¬q3 g i) (fun x => [AV.bool false]) (fun x => H.nil) fun x => [], Out.mk Unit (AX.exit 4) [0, 28, 29] (fun x => q3 g i) (fun x => [ls g r, I (↑g.length : Int), I (↑i : Int)]) (fun x => H.nil) fun x => []] AX.ret [ls g r, u (1 : Nat), AV.bool false, u (3 : Nat), u (4 : Nat), I (↑i : Int), I (↑j : Int), u (7 : Nat), u (8 : Nat), u (9 : Nat), u (10 : Nat), u (11 : Nat), u (12 : Nat), u (13 : Nat), u (14 : Nat), u (15 : Nat), u (16 : Nat), u (17 : Nat), u (18 : Nat), u (19 : Nat), u (20 : Nat), u (21 : Nat), u (22 : Nat), u (23 : Nat), u (24 : Nat), u (25 : Nat), u (26 : Nat), u (27 : Nat), I (↑g.length : Int), I (↑i : Int), u (30 : Nat), u (31 : Nat), u (32 : Nat), I (↑g.length : Int), I (↑j : Int), AV.bool true, I (↑j : Int), ls g r, I (↑i : Int), AV.cptr (ints (List.drop i g)), I (g.getD i i0), I (↑j : Int), AV.bool true, ls g r, I (↑j : Int), AV.cptr (ints (List.drop j g)), I (g.getD j i0), I (↑i : Int), AV.bool false, AV.bool true, AV.bool true, AV.tup [], AV.tup [], AV.tup [], AV.tup [], AV.tup [], AV.tup [], AV.tup [], AV.tup [], AV.tup [], AV.tup [], AV.tup [], AV.bool true, u (63 : Nat), u (64 : Nat)] (H.mk [] [] [])) (by kernel_rfl) ?_⟩
        refine ⟨by first | with_reducible assumption | omega | assumption, ?_⟩
        refine ⟨by first | exact ix_ints (by kernel_rfl) (by omega) (by assumption) | exact ix_ints (by kernel_rfl) (by omega) (rok_idx (by assumption) (by omega)), ?_⟩
        refine ⟨by first | exact ld_ints (by kernel_rfl) (by kernel_rfl) (by omega) | exact ldm_ints (by kernel_rfl) (by kernel_rfl) (by first | omega | (simp; omega)), ?_⟩
        refine ⟨by first | exact acall_b (acall_hit (c := c71.to) (at_ g i, (j : Int)) _ rfl p1) b1 | exact acall_b (acall_hit (c := c71.to) (at_ g j, (i : Int)) _ rfl p2) b2, ?_⟩
        refine ⟨by first | exact ix_ints (by kernel_rfl) (by omega) (by assumption) | exact ix_ints (by kernel_rfl) (by omega) (rok_idx (by assumption) (by omega)), ?_⟩
        refine ⟨by first | exact ld_ints (by kernel_rfl) (by kernel_rfl) (by omega) | exact ldm_ints (by kernel_rfl) (by kernel_rfl) (by first | omega | (simp; omega)), ?_⟩
        refine ⟨by first | exact acall_b (acall_hit (c := c71.to) (at_ g i, (j : Int)) _ rfl p1) b1 | exact acall_b (acall_hit (c := c71.to) (at_ g j, (i : Int)) _ rfl p2) b2, ?_⟩
        refine ⟨by first | with_reducible assumption | omega | assumption, ?_⟩
        exact .inl ⟨(), hn, rfl, rfl, rfl⟩
      · by_cases e : (i : Int) = j
        · have hn : ¬ q3 g i := fun h => by have := (h j hz').2 (by omega); simp only [Int.toNat_natCast] at b1 b2; rw [b1] at this; cases this
          refine ⟨[Ans.o (Orc.b true), Ans.o (Orc.val 39 (AV.cptr (ints (List.drop i g))) H.nil), Ans.o (Orc.val 40 (I (g.getD i i0)) H.nil), Ans.o (Orc.val 42 (AV.bool true) (H.mk [] [] [])), Ans.o (Orc.val 45 (AV.cptr (ints (List.drop j g))) H.nil), Ans.o (Orc.val 46 (I (g.getD j i0)) H.nil), Ans.o (Orc.val 48 (AV.bool true) (H.mk [] [] [])), Ans.o (Orc.b true), Ans.o (Orc.val 57 (AV.cptr (ints (List.drop i g))) H.nil), Ans.o (Orc.val 58 (I (g.getD i i0)) H.nil), Ans.o (Orc.val 60 (AV.bool true) (H.mk [] [] []))], fun u => of_eq ((↑j : Int) < (↑g.length : Int) ∧ aIndexAddr Tryd.prog 22 (ls g r) (I (↑i : Int)) = some (AV.cptr (ints (List.drop i g))) ∧ aLoad Tryd.prog 3 (ints (List.drop i g)) = some (I (g.getD i i0)) ∧ aCall (Sof [c71.to]) (AV.fn (Fn.func 71) [] []) [I (g.getD i i0), I (↑j : Int)] (H.mk [] [] []) = some (AV.bool true, H.mk [] [] []) ∧ aIndexAddr Tryd.prog 22 (ls g r) (I (↑j : Int)) = some (AV.cptr (ints (List.drop j g))) ∧ aLoad Tryd.prog 3 (ints (List.drop j g)) = some (I (g.getD j i0)) ∧ aCall (Sof [c71.to]) (AV.fn (Fn.func 71) [] []) [I (g.getD j i0), I (↑i : Int)] (H.mk [] [] []) = some (AV.bool true, H.mk [] [] []) ∧ (↑i : Int) = (↑j : Int) ∧ aIndexAddr Tryd.prog 22 (ls g r) (I (↑i : Int)) = some (AV.cptr (ints (List.drop i g))) ∧ aLoad Tryd.prog 3 (ints (List.drop i g)) = some (I (g.getD i i0)) ∧ aCall (Sof [c71.to]) (AV.fn (Fn.func 71) [] []) [I (g.getD i i0), I (↑j : Int)] (H.mk [] [] []) = some (AV.bool true, H.mk [] [] []) ∧ (65 : Nat) = (65 : Nat) ∧ hits [Out.mk Unit AX.ret [2] (fun x => ¬q3 g i) (fun x => [AV.bool false]) (fun x => H.nil) fun x => [], Out.mk Unit (AX.exit 4) [0, 28, 29] (fun x => q3 g i) (fun x => [ls g r, I (↑g.length : Int), I (↑i : Int)]) (fun x => H.nil) fun x => []] AX.ret [ls g r, u (1 : Nat), AV.bool false, u (3 : Nat), u (4 : Nat), I (↑i : Int), I (↑j : Int), u (7 : Nat), u (8 : Nat), u (9 : Nat), u (10 : Nat), u (11 : Nat), u (12 : Nat), u (13 : Nat), u (14 : Nat), u (15 : Nat), u (16 : Nat), u (17 : Nat), u (18 : Nat), u (19 : Nat), u (20 : Nat), u (21 : Nat), u (22 : Nat), u (23 : Nat), u (24 : Nat), u (25 : Nat), u (26 : Nat), u (27 : Nat), I (↑g.length : Int), I (↑i : Int), u (30 : Nat), u (31 : Nat), u (32 : Nat), I (↑g.length : Int), I (↑j : Int), AV.bool true, I (↑j : Int), ls g r, I (↑i : Int), AV.cptr (ints (List.drop i g)), I (g.getD i i0), I (↑j : Int), AV.bool true, ls g r, I (↑j : Int), AV.cptr (ints (List.drop j g)), I (g.getD j i0), I (↑i : Int), AV.bool true, AV.bool false, AV.bool false, I (↑i : Int), I (↑j : Int), AV.bool true, AV.bool true, ls g r, I (↑i : Int), AV.cptr (ints (List.drop i g)), I (g.getD i i0), I (↑j : Int), AV.bool true, AV.bool true, AV.bool true, u (63 : Nat), u (64 : Nat)] (H.mk [] [] [])) (by kernel_rfl) ?_⟩
          refine ⟨by first | with_reducible assumption | omega | assumption, ?_⟩
          refine ⟨by first | exact ix_ints (by kernel_rfl) (by omega) (by assumption) | exact ix_ints (by kernel_rfl) (by omega) (rok_idx (by assumption) (by omega)), ?_⟩
          refine ⟨by first | exact ld_ints (by kernel_rfl) (by kernel_rfl) (by omega) | exact ldm_ints (by kernel_rfl) (by kernel_rfl) (by first | omega | (simp; omega)), ?_⟩
          refine ⟨by first | exact acall_b (acall_hit (c := c71.to) (at_ g i, (j : Int)) _ rfl p1) b1 | exact acall_b (acall_hit (c := c71.to) (at_ g j, (i : Int)) _ rfl p2) b2, ?_⟩
          refine ⟨by first | exact ix_ints (by kernel_rfl) (by omega) (by assumption) | exact ix_ints (by kernel_rfl) (by omega) (rok_idx (by assumption) (by omega)), ?_⟩
          refine ⟨by first | exact ld_ints (by kernel_rfl) (by kernel_rfl) (by omega) | exact ldm_ints (by kernel_rfl) (by kernel_rfl) (by first | omega | (simp; omega)), ?_⟩
          refine ⟨by first | exact acall_b (acall_hit (c := c71.to) (at_ g i, (j : Int)) _ rfl p1) b1 | exact acall_b (acall_hit (c := c71.to) (at_ g j, (i : Int)) _ rfl p2) b2, ?_⟩
          refine ⟨by first | with_reducible assumption | omega | assumption, ?_⟩
          refine ⟨by first | exact ix_ints (by kernel_rfl) (by omega) (by assumption) | exact ix_ints (by kernel_rfl) (by omega) (rok_idx (by assumption) (by omega)), ?_⟩
          refine ⟨by first | exact ld_ints (by kernel_rfl) (by kernel_rfl) (by omega) | exact ldm_ints (by kernel_rfl) (by kernel_rfl) (by first | omega | (simp; omega)), ?_⟩
          refine ⟨by first | exact acall_b (acall_hit (c := c71.to) (at_ g i, (j : Int)) _ rfl p1) b1 | exact acall_b (acall_hit (c := c71.to) (at_ g j, (i : Int)) _ rfl p2) b2, ?_⟩
          refine ⟨by first | with_reducible assumption | omega | assumption, ?_⟩
          exact .inl ⟨(), hn, rfl, rfl, rfl⟩
        · have hk := all_succ (q := q2 g i) ha ⟨by simpa using b1.trans b2.symm, fun h => absurd h (by omega)⟩
          have e : (i : Int) ≠ j := e
          refine ⟨[Ans.o (Orc.b true), Ans.o (Orc.val 39 (AV.cptr (ints (List.drop i g))) H.nil), Ans.o (Orc.val 40 (I (g.getD i i0)) H.nil), Ans.o (Orc.val 42 (AV.bool true) (H.mk [] [] [])), Ans.o (Orc.val 45 (AV.cptr (ints (List.drop j g))) H.nil), Ans.o (Orc.val 46 (I (g.getD j i0)) H.nil), Ans.o (Orc.val 48 (AV.bool true) (H.mk [] [] [])), Ans.o (Orc.b false)], fun u => of_eq ((↑j : Int) < (↑g.length : Int) ∧ aIndexAddr Tryd.prog 22 (ls g r) (I (↑i : Int)) = some (AV.cptr (ints (List.drop i g))) ∧ aLoad Tryd.prog 3 (ints (List.drop i g)) = some (I (g.getD i i0)) ∧ aCall (Sof [c71.to]) (AV.fn (Fn.func 71) [] []) [I (g.getD i i0), I (↑j : Int)] (H.mk [] [] []) = some (AV.bool true, H.mk [] [] []) ∧ aIndexAddr Tryd.prog 22 (ls g r) (I (↑j : Int)) = some (AV.cptr (ints (List.drop j g))) ∧ aLoad Tryd.prog 3 (ints (List.drop j g)) = some (I (g.getD j i0)) ∧ aCall (Sof [c71.to]) (AV.fn (Fn.func 71) [] []) [I (g.getD j i0), I (↑i : Int)] (H.mk [] [] []) = some (AV.bool true, H.mk [] [] []) ∧ (↑i : Int) ≠ (↑j : Int) ∧ IntKind.i64.wrap ((↑j : Int) + (1 : Int)) = (↑j : Int) + (1 : Int) ∧ (65 : Nat) = (65 : Nat) ∧ j < g.length ∧ Keep (H.mk [] [] [] = H.mk [] [] [] ∧ [ls g r, I (↑i : Int), I (↑g.length : Int), I (↑i : Int), I (↑g.length : Int), I ((↑j : Int) + (1 : Int))] = [ls g r, I (↑i : Int), I (↑g.length : Int), I (↑i : Int), I (↑g.length : Int), I (↑(j + (1 : Nat)) : Int)] ∧ ∀ (k : Nat), k < j + (1 : Nat) → q2 g i k)) (by kernel_rfl) ?_⟩
          refine ⟨by first | with_reducible assumption | omega | assumption, ?_⟩
          refine ⟨by first | exact ix_ints (by kernel_rfl) (by omega) (by assumption) | exact ix_ints (by kernel_rfl) (by omega) (rok_idx (by assumption) (by omega)), ?_⟩
          refine ⟨by first | exact ld_ints (by kernel_rfl) (by kernel_rfl) (by omega) | exact ldm_ints (by kernel_rfl) (by kernel_rfl) (by first | omega | (simp; omega)), ?_⟩
          refine ⟨by first | exact acall_b (acall_hit (c := c71.to) (at_ g i, (j : Int)) _ rfl p1) b1 | exact acall_b (acall_hit (c := c71.to) (at_ g j, (i : Int)) _ rfl p2) b2, ?_⟩
          refine ⟨by first | exact ix_ints (by kernel_rfl) (by omega) (by assumption) | exact ix_ints (by kernel_rfl) (by omega) (rok_idx (by assumption) (by omega)), ?_⟩
          refine ⟨by first | exact ld_ints (by kernel_rfl) (by kernel_rfl) (by omega) | exact ldm_ints (by kernel_rfl) (by kernel_rfl) (by first | omega | (simp; omega)), ?_⟩
          refine ⟨by first | exact acall_b (acall_hit (c := c71.to) (at_ g i, (j : Int)) _ rfl p1) b1 | exact acall_b (acall_hit (c := c71.to) (at_ g j, (i : Int)) _ rfl p2) b2, ?_⟩
          refine ⟨by first | with_reducible assumption | omega | assumption, ?_⟩
          refine ⟨wr _ (by omega) (by omega), ?_⟩
          refine ⟨by first | with_reducible assumption | omega | assumption, ?_⟩
          refine ⟨by first | with_reducible assumption | omega | assumption, ?_⟩
          exact ⟨rfl, rfl, hk⟩
  · have hz : (g.length : Int) ≤ j := by omega
    have hj' : j = g.length := by omega
    subst hj'
    refine ⟨[Ans.o (Orc.b false)], fun u => of_eq ((↑g.length : Int) ≤ (↑g.length : Int) ∧ (65 : Nat) = (65 : Nat) ∧ hits [Out.mk Unit AX.ret [2] (fun x => ¬q3 g i) (fun x => [AV.bool false]) (fun x => H.nil) fun x => [], Out.mk Unit (AX.exit 4) [0, 28, 29] (fun x => q3 g i) (fun x => [ls g r, I (↑g.length : Int), I (↑i : Int)]) (fun x => H.nil) fun x => []] (AX.exit 4) [ls g r, u (1 : Nat), u (2 : Nat), u (3 : Nat), u (4 : Nat), I (↑i : Int), u (6 : Nat), u (7 : Nat), u (8 : Nat), u (9 : Nat), u (10 : Nat), u (11 : Nat), u (12 : Nat), u (13 : Nat), u (14 : Nat), u (15 : Nat), u (16 : Nat), u (17 : Nat), u (18 : Nat), u (19 : Nat), u (20 : Nat), u (21 : Nat), u (22 : Nat), u (23 : Nat), u (24 : Nat), u (25 : Nat), u (26 : Nat), u (27 : Nat), I (↑g.length : Int), I (↑i : Int), u (30 : Nat), u (31 : Nat), u (32 : Nat), I (↑g.length : Int), I (↑g.length : Int), AV.bool false, u (36 : Nat), u (37 : Nat), u (38 : Nat), u (39 : Nat), u (40 : Nat), u (41 : Nat), u (42 : Nat), u (43 : Nat), u (44 : Nat), u (45 : Nat), u (46 : Nat), u (47 : Nat), u (48 : Nat), u (49 : Nat), u (50 : Nat), u (51 : Nat), u (52 : Nat), u (53 : Nat), u (54 : Nat), u (55 : Nat), u (56 : Nat), u (57 : Nat), u (58 : Nat), u (59 : Nat), u (60 : Nat), u (61 : Nat), u (62 : Nat), u (63 : Nat), u (64 : Nat)] (H.mk [] [] [])) (by kernel_rfl) ?_⟩
    refine ⟨by first | with_reducible assumption | omega | assumption, ?_⟩
    refine ⟨by first | with_reducible assumption | omega | assumption, ?_⟩
    exact .inr (.inl ⟨(), ha, rfl, rfl, rfl⟩)
abbrev o67b (g : List Int) : List Out :=
  [.mk Unit .ret [2] (fun _ => ¬ ∀ i, i < g.length → q3 g i) (fun _ => [.bool false]) (fun _ => .nil) (fun _ => []), .mk Unit (.exit 2) [] (fun _ => ∀ i, i < g.length → q3 g i) (fun _ => []) (fun _ => .nil) (fun _ => [])]
theorem simp67b : allSimpleM none1 (loopAt Tryd.f67 1) = true := by kernel_rfl
theorem lp67b (g : List Int) (r : Room) (h1 : sz g) (h2 : rok g r) (h3 : rg g) :
    LoopS (En6 [c71.to]) (loopAt Tryd.f67 1) 65 [0, 28, 29] [ls g r, I g.length, I 0] .nil (o67b g) := by
  have hR : Rests (En6 [c71.to]) none1 := rests mixed (.pure _ .nil)
  have hl := h1.2
  refine loop_s hR simp67b none (by intro _ h; cases h) (fun j vs h => h = .nil ∧ vs = [ls g r, I g.length, I j] ∧ ∀ k, k < j → q3 g k) g.length ⟨rfl, rfl, fun i hi => absurd hi (by omega)⟩ (by intro _ h; cases h) ?_
  rintro j vs h hj ⟨rfl, rfl, ha⟩
  by_cases hz : (j : Int) < g.length
  · have hz' : j < g.length := by omega
    refine ⟨[Ans.o (Orc.b true), Ans.loop [0, 5, 28, 29, 33, 34] [Out.mk Unit AX.ret [2] (fun x => ¬q3 g j) (fun x => [AV.bool false]) (fun x => H.nil) fun y => [], Out.mk Unit (AX.exit 4) [0, 28, 29] (fun x => q3 g j) (fun x => [ls g r, I (↑g.length : Int), I (↑j : Int)]) (fun x => H.nil) fun y => []]], fun u => of_eq ((↑j : Int) < (↑g.length : Int) ∧ LoopS (En6 [c71.to]) (loopAt Tryd.f67 2) 65 [0, 5, 28, 29, 33, 34] [ls g r, I (↑j : Int), I (↑g.length : Int), I (↑j : Int), I (↑g.length : Int), I 0] (H.mk [] [] []) [Out.mk Unit AX.ret [2] (fun x => ¬q3 g j) (fun x => [AV.bool false]) (fun x => H.nil) fun y => [], Out.mk Unit (AX.exit 4) [0, 28, 29] (fun x => q3 g j) (fun x => [ls g r, I (↑g.length : Int), I (↑j : Int)]) (fun x => H.nil) fun y => []] ∧ (∀ (y : Unit), ¬q3 g j → ∀ (u : Nat → AV), (65 : Nat) = (65 : Nat) ∧ hits [Out.mk Unit AX.ret [2] (fun x => ¬∀ (i : Nat), i < g.length → q3 g i) (fun x => [AV.bool false]) (fun x => H.nil) fun x => [], Out.mk Unit (AX.exit 2) [] (fun x => ∀ (i : Nat), i < g.length → q3 g i) (fun x => []) (fun x => H.nil) fun x => []] AX.ret [u (0 : Nat), u (1 : Nat), AV.bool false, u (3 : Nat), u (4 : Nat), u (5 : Nat), u (6 : Nat), u (7 : Nat), u (8 : Nat), u (9 : Nat), u (10 : Nat), u (11 : Nat), u (12 : Nat), u (13 : Nat), u (14 : Nat), u (15 : Nat), u (16 : Nat), u (17 : Nat), u (18 : Nat), u (19 : Nat), u (20 : Nat), u (21 : Nat), u (22 : Nat), u (23 : Nat), u (24 : Nat), u (25 : Nat), u (26 : Nat), u (27 : Nat), u (28 : Nat), u (29 : Nat), u (30 : Nat), u (31 : Nat), u (32 : Nat), u (33 : Nat), u (34 : Nat), u (35 : Nat), u (36 : Nat), u (37 : Nat), u (38 : Nat), u (39 : Nat), u (40 : Nat), u (41 : Nat), u (42 : Nat), u (43 : Nat), u (44 : Nat), u (45 : Nat), u (46 : Nat), u (47 : Nat), u (48 : Nat), u (49 : Nat), u (50 : Nat), u (51 : Nat), u (52 : Nat), u (53 : Nat), u (54 : Nat), u (55 : Nat), u (56 : Nat), u (57 : Nat), u (58 : Nat), u (59 : Nat), u (60 : Nat), u (61 : Nat), u (62 : Nat), u (63 : Nat), u (64 : Nat)] (H.mk [] [] [])) ∧ (∀ (y : Unit), (∀ (j_1 : Nat), j_1 < g.length → bi (at_ g j) j_1 = bi (at_ g j_1) j ∧ (j = j_1 → bi (at_ g j) j_1 = false)) → ∀ (u : Nat → AV), IntKind.i64.wrap ((↑j : Int) + (1 : Int)) = (↑j : Int) + (1 : Int) ∧ (65 : Nat) = (65 : Nat) ∧ j < g.length ∧ Keep (H.mk [] [] [] = H.mk [] [] [] ∧ [ls g r, I (↑g.length : Int), I ((↑j : Int) + (1 : Int))] = [ls g r, I (↑g.length : Int), I (↑(j + (1 : Nat)) : Int)] ∧ ∀ (k : Nat), k < j + (1 : Nat) → q3 g k)) ∧ True) (by kernel_rfl) ?_⟩
    refine ⟨by first | with_reducible assumption | omega | assumption, ?_⟩
    refine ⟨lp67c g r h1 h2 h3 j hz', ?_⟩
    refine And.intro ?_ ?_
    · skip
      intro y
      intro w1
      intro u
      refine ⟨by first | with_reducible assumption | omega | assumption, ?_⟩
      exact .inl ⟨(), fun h => (by with_reducible assumption : ¬ q3 g j) (h j hz'), rfl, rfl, rfl⟩
    · skip
      refine And.intro ?_ ?_
      · skip
        intro y
        intro w1
        intro u
        refine ⟨wr _ (by omega) (by omega), ?_⟩
        refine ⟨by first | with_reducible assumption | omega | assumption, ?_⟩
        refine ⟨by first | with_reducible assumption | omega | assumption, ?_⟩
        exact ⟨rfl, rfl, all_succ (q := q3 g) ha (by assumption)⟩
      · skip
        trivial
  · have hz : (g.length : Int) ≤ j := by omega
    have hj' : j = g.length := by omega
    subst hj'
    refine ⟨[Ans.o (Orc.b false)], fun u => of_eq ((↑g.length : Int) ≤ (↑g.length : Int) ∧ (65 : Nat) = (65 : Nat) ∧ hits [Out.mk Unit AX.ret [2] (fun x => ¬∀ (i : Nat), i < g.length → q3 g i) (fun x => [AV.bool false]) (fun x => H.nil) fun x => [], Out.mk Unit (AX.exit 2) [] (fun x => ∀ (i : Nat), i < g.length → q3 g i) (fun x => []) (fun x => H.nil) fun x => []] (AX.exit 2) [ls g r, u (1 : Nat), u (2 : Nat), u (3 : Nat), u (4 : Nat), u (5 : Nat), u (6 : Nat), u (7 : Nat), u (8 : Nat), u (9 : Nat), u (10 : Nat), u (11 : Nat), u (12 : Nat), u (13 : Nat), u (14 : Nat), u (15 : Nat), u (16 : Nat), u (17 : Nat), u (18 : Nat), u (19 : Nat), u (20 : Nat), u (21 : Nat), u (22 : Nat), u (23 : Nat), u (24 : Nat), u (25 : Nat), u (26 : Nat), u (27 : Nat), I (↑g.length : Int), I (↑g.length : Int), AV.bool false, u (31 : Nat), u (32 : Nat), u (33 : Nat), u (34 : Nat), u (35 : Nat), u (36 : Nat), u (37 : Nat), u (38 : Nat), u (39 : Nat), u (40 : Nat), u (41 : Nat), u (42 : Nat), u (43 : Nat), u (44 : Nat), u (45 : Nat), u (46 : Nat), u (47 : Nat), u (48 : Nat), u (49 : Nat), u (50 : Nat), u (51 : Nat), u (52 : Nat), u (53 : Nat), u (54 : Nat), u (55 : Nat), u (56 : Nat), u (57 : Nat), u (58 : Nat), u (59 : Nat), u (60 : Nat), u (61 : Nat), u (62 : Nat), u (63 : Nat), u (64 : Nat)] (H.mk [] [] [])) (by kernel_rfl) ?_⟩
    refine ⟨by first | with_reducible assumption | omega | assumption, ?_⟩
    refine ⟨by first | with_reducible assumption | omega | assumption, ?_⟩
    exact .inr (.inl ⟨(), ha, rfl, rfl, rfl⟩)
theorem ok67 : FokM Tryd.prog none1 67 Tryd.f67 := ⟨mixed, by kernel_rfl, by kernel_rfl, by kernel_rfl, by kernel_rfl⟩
theorem r67 (g : List Int) (r : Room) (hp : lim g.length ∧ rok g r) : Body ⟨Tryd.prog, Sof (P := Tryd.prog) [c84.to, c71.to], Pof (P := Tryd.prog) [], H.nil.base, 300⟩ none1 Tryd.f67 [ls g r] .nil (.bool (grB g), .nil) := by
  obtain ⟨hl, hr⟩ := hp
  have t84 : True := trivial
  by_cases h1 : sz g
  · have hd : decide (1 ≤ (g.length : Int) ∧ (g.length : Int) ≤ 6) = true := by rw [decide_eq_true_eq]; have := h1; omega
    by_cases h2 : rg g
    · refine body_s ([Ans.o (Orc.val 9 (AV.bool true) (H.mk [] [] [])), Ans.loop [0, 11, 12, 13] [Out.mk Unit AX.ret [2] (fun x => ¬rg g) (fun x => [AV.bool false]) (fun x => H.nil) fun y => [], Out.mk Unit (AX.exit 0) [0] (fun x => rg g) (fun x => [ls g r]) (fun x => H.nil) fun y => [Ans.loop [0, 28, 29] [Out.mk Unit AX.ret [2] (fun x => ¬∀ (i : Nat), i < g.length → q3 g i) (fun x => [AV.bool false]) (fun x => H.nil) fun y => [], Out.mk Unit (AX.exit 2) [] (fun x => ∀ (i : Nat), i < g.length → q3 g i) (fun x => []) (fun x => H.nil) fun y => []]]]]) (aCall (Sof [c84.to, c71.to]) (AV.fn (Fn.func 84) [] []) [I (↑g.length : Int)] (H.mk [] [] []) = some (AV.bool true, H.mk [] [] []) ∧ LoopS (En6 [c84.to, c71.to]) (loopAt Tryd.f67 0) 65 [0, 11, 12, 13] [ls g r, ls g r, I (↑g.length : Int), I 0] (H.mk [] [] []) [Out.mk Unit AX.ret [2] (fun x => ¬rg g) (fun x => [AV.bool false]) (fun x => H.nil) fun y => [], Out.mk Unit (AX.exit 0) [0] (fun x => rg g) (fun x => [ls g r]) (fun x => H.nil) fun y => [Ans.loop [0, 28, 29] [Out.mk Unit AX.ret [2] (fun x => ¬∀ (i : Nat), i < g.length → q3 g i) (fun x => [AV.bool false]) (fun x => H.nil) fun y => [], Out.mk Unit (AX.exit 2) [] (fun x => ∀ (i : Nat), i < g.length → q3 g i) (fun x => []) (fun x => H.nil) fun y => []]]] ∧ (∀ (y : Unit), ¬rg g → ∀ (u : Nat → AV), (AV.bool false, H.mk [] [] []) = (AV.bool (grB g), H.mk [] [] [])) ∧ (∀ (y : Unit), (∀ (i : Nat), i < g.length → (0 : Int) ≤ at_ g i ∧ at_ g i < (↑((2 : Nat) ^ g.length) : Int)) → ∀ (u : Nat → AV), LoopS (En6 [c84.to, c71.to]) (loopAt Tryd.f67 1) 65 [0, 28, 29] [ls g r, I (↑g.length : Int), I 0] (H.mk [] [] []) [Out.mk Unit AX.ret [2] (fun x => ¬∀ (i : Nat), i < g.length → q3 g i) (fun x => [AV.bool false]) (fun x => H.nil) fun y => [], Out.mk Unit (AX.exit 2) [] (fun x => ∀ (i : Nat), i < g.length → q3 g i) (fun x => []) (fun x => H.nil) fun y => []] ∧ (∀ (y : Unit), (¬∀ (i : Nat), i < g.length → q3 g i) → ∀ (u : Nat → AV), (AV.bool false, H.mk [] [] []) = (AV.bool (grB g), H.mk [] [] [])) ∧ (∀ (y : Unit), (∀ (i : Nat), i < g.length → ∀ (j : Nat), j < g.length → bi (at_ g i) j = bi (at_ g j) i ∧ (i = j → bi (at_ g i) j = false)) → ∀ (u : Nat → AV), (AV.bool true, H.mk [] [] []) = (AV.bool (grB g), H.mk [] [] [])) ∧ True) ∧ True) (by kernel_rfl) ?_
      refine ⟨acall_b (acall_hit (c := c84.to) (g.length : Int) _ rfl t84) hd, ?_⟩
      refine ⟨lp67a g r h1 hr, ?_⟩
      refine And.intro ?_ ?_
      · skip
        intro y
        intro w1
        intro u
        first | exact absurd h2 (by with_reducible assumption) | exact congrArg (fun b => (AV.bool b, H.nil)) (grB_t ⟨h1, h2, by with_reducible assumption⟩).symm | exact congrArg (fun b => (AV.bool b, H.nil)) (grB_f (fun h => (by with_reducible assumption : ¬ ∀ i, i < g.length → q3 g i) h.2.2)).symm
      · skip
        refine And.intro ?_ ?_
        · skip
          intro y
          intro w1
          intro u
          refine ⟨lp67b g r h1 hr h2, ?_⟩
          refine And.intro ?_ ?_
          · skip
            intro y
            intro w4
            intro u
            first | exact absurd h2 (by with_reducible assumption) | exact congrArg (fun b => (AV.bool b, H.nil)) (grB_t ⟨h1, h2, by with_reducible assumption⟩).symm | exact congrArg (fun b => (AV.bool b, H.nil)) (grB_f (fun h => (by with_reducible assumption : ¬ ∀ i, i < g.length → q3 g i) h.2.2)).symm
          · skip
            refine And.intro ?_ ?_
            · skip
              intro y
              intro w4
              intro u
              first | exact absurd h2 (by with_reducible assumption) | exact congrArg (fun b => (AV.bool b, H.nil)) (grB_t ⟨h1, h2, by with_reducible assumption⟩).symm | exact congrArg (fun b => (AV.bool b, H.nil)) (grB_f (fun h => (by with_reducible assumption : ¬ ∀ i, i < g.length → q3 g i) h.2.2)).symm
            · skip
              trivial
        · skip
          trivial
    · have hf := grB_f (g := g) (fun h => h2 h.2.1)
      rw [hf]
      refine body_s ([Ans.o (Orc.val 9 (AV.bool true) (H.mk [] [] [])), Ans.loop [0, 11, 12, 13] [Out.mk Unit AX.ret [2] (fun x => ¬rg g) (fun x => [AV.bool false]) (fun x => H.nil) fun y => [], Out.mk Unit (AX.exit 0) [0] (fun x => rg g) (fun x => [ls g r]) (fun x => H.nil) fun y => [Ans.loop [0, 28, 29] [Out.mk Unit AX.ret [2] (fun x => ¬∀ (i : Nat), i < g.length → q3 g i) (fun x => [AV.bool false]) (fun x => H.nil) fun y => [], Out.mk Unit (AX.exit 2) [] (fun x => ∀ (i : Nat), i < g.length → q3 g i) (fun x => []) (fun x => H.nil) fun y => []]]]]) (aCall (Sof [c84.to, c71.to]) (AV.fn (Fn.func 84) [] []) [I (↑g.length : Int)] (H.mk [] [] []) = some (AV.bool true, H.mk [] [] []) ∧ LoopS (En6 [c84.to, c71.to]) (loopAt Tryd.f67 0) 65 [0, 11, 12, 13] [ls g r, ls g r, I (↑g.length : Int), I 0] (H.mk [] [] []) [Out.mk Unit AX.ret [2] (fun x => ¬rg g) (fun x => [AV.bool false]) (fun x => H.nil) fun y => [], Out.mk Unit (AX.exit 0) [0] (fun x => rg g) (fun x => [ls g r]) (fun x => H.nil) fun y => [Ans.loop [0, 28, 29] [Out.mk Unit AX.ret [2] (fun x => ¬∀ (i : Nat), i < g.length → q3 g i) (fun x => [AV.bool false]) (fun x => H.nil) fun y => [], Out.mk Unit (AX.exit 2) [] (fun x => ∀ (i : Nat), i < g.length → q3 g i) (fun x => []) (fun x => H.nil) fun y => []]]] ∧ (∀ (y : Unit), ¬rg g → ∀ (u : Nat → AV), (AV.bool false, H.mk [] [] []) = (AV.bool false, H.mk [] [] [])) ∧ (∀ (y : Unit), (∀ (i : Nat), i < g.length → (0 : Int) ≤ at_ g i ∧ at_ g i < (↑((2 : Nat) ^ g.length) : Int)) → ∀ (u : Nat → AV), LoopS (En6 [c84.to, c71.to]) (loopAt Tryd.f67 1) 65 [0, 28, 29] [ls g r, I (↑g.length : Int), I 0] (H.mk [] [] []) [Out.mk Unit AX.ret [2] (fun x => ¬∀ (i : Nat), i < g.length → q3 g i) (fun x => [AV.bool false]) (fun x => H.nil) fun y => [], Out.mk Unit (AX.exit 2) [] (fun x => ∀ (i : Nat), i < g.length → q3 g i) (fun x => []) (fun x => H.nil) fun y => []] ∧ (∀ (y : Unit), (¬∀ (i : Nat), i < g.length → q3 g i) → ∀ (u : Nat → AV), (AV.bool false, H.mk [] [] []) = (AV.bool false, H.mk [] [] [])) ∧ (∀ (y : Unit), (∀ (i : Nat), i < g.length → ∀ (j : Nat), j < g.length → bi (at_ g i) j = bi (at_ g j) i ∧ (i = j → bi (at_ g i) j = false)) → ∀ (u : Nat → AV), (AV.bool true, H.mk [] [] []) = (AV.bool false, H.mk [] [] [])) ∧ True) ∧ True) (by kernel_rfl) ?_
      refine ⟨acall_b (acall_hit (c := c84.to) (g.length : Int) _ rfl t84) hd, ?_⟩
      refine ⟨lp67a g r h1 hr, ?_⟩
      refine And.intro ?_ ?_
      · skip
        intro y
        intro w1
        intro u
        first | rfl | exact absurd (by with_reducible assumption) h2
      · skip
        refine And.intro ?_ ?_
        · skip
          intro y
          intro w1
          intro u
          refine ⟨absurd (by with_reducible assumption) h2, ?_⟩
          refine And.intro ?_ ?_
          · skip
            intro y
            intro w4
            intro u
            first | rfl | exact absurd (by with_reducible assumption) h2
          · skip
            refine And.intro ?_ ?_
            · skip
              intro y
              intro w4
              intro u
              first | rfl | exact absurd (by with_reducible assumption) h2
            · skip
              trivial
        · skip
          trivial
  · have hd : decide (1 ≤ (g.length : Int) ∧ (g.length : Int) ≤ 6) = false := by rw [decide_eq_false_iff_not]; intro h; apply h1; omega
    have hf := grB_f (g := g) (fun h => h1 h.1)
    rw [hf]
    refine body_s ([Ans.o (Orc.val 9 (AV.bool false) (H.mk [] [] []))]) (aCall (Sof [c84.to, c71.to]) (AV.fn (Fn.func 84) [] []) [I (↑g.length : Int)] (H.mk [] [] []) = some (AV.bool false, H.mk [] [] []) ∧ (AV.bool false, H.mk [] [] []) = (AV.bool false, H.mk [] [] [])) (by kernel_rfl) ?_
    refine ⟨acall_b (acall_hit (c := c84.to) (g.length : Int) _ rfl t84) hd, ?_⟩
    first | with_reducible rfl | (refine bleaf_t ?_; omega) | (refine bleaf_f ?_; omega) | (refine ileaf ?_; omega) | rfl | (exfalso; omega)
noncomputable def c67 : PCtr Tryd.prog := sctr ok67 (X := List Int × Room) (fun x => [ls x.1 x.2]) (fun x => lim x.1.length ∧ rok x.1 x.2) (fun x => .bool (grB x.1)) (by intro x y e _ _; simp at e; simp [e]) (fun x => by simp [AV.bnds, AV.bnd, AV.wk, rm_wk_bnd]) (fun x => by first | rfl | (simp [AV.bnd, rm_wk_bnd]; done)  | (simp [AV.bnd, AV.bnds, rm_wk_bnd]; done) | simp [AV.bnd, AV.bnds, Room.bnd, rm_wk_bnd]) (fun x hx => ⟨_, _, _, .pure c84 (.pure c71 (.nil)), r67 (x.1) (x.2).wk (by first | exact hx | (simp only [rok_wk]; exact hx) | (simp only [rok_wk, lst_wk]; exact hx) | (simp only [rok_wk, lst_wk, lsn_wk]; exact hx))⟩)
end Go.Proofs.Sur

