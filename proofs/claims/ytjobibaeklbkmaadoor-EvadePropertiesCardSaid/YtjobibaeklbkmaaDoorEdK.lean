/- Layer 8: by the reference: what is a family. -/
import Derived.Test.YtjobibaeklbkmaaDoorEdJ
import Derived.KernelRfl
set_option linter.unusedSimpArgs false
set_option linter.unusedVariables false
set_option linter.unnecessarySimpa false
set_option maxHeartbeats 4000000
set_option maxRecDepth 100000
namespace Go.Proofs.Evd
open Go Go.VM
open Go.Proofs.Sur (W w_wrap w_nat w_inj w_eq0 w_and w_or w_andn w_shl w_shr neg_nat sub_nat tz tz_ok cl bits_cons bits_0 bits_len andn andn_bit andn_le i_wrap i_and i_or i_andn i_shl i_shr bit_01)

/-- all parts with one element less are in the list -/
abbrev ptj (n : Nat) (l : List Int) (s : Int) (k : Nat) : Prop := ∀ x, x < k → ((andn s.toNat (2 ^ x) : Nat) : Int) ∈ l
abbrev okj (n : Nat) (l : List Int) (j : Nat) : Prop := (j = 0 ∨ ia l (j - 1) < ia l j) ∧ ptj n l (ia l j) n
abbrev tA (n : Nat) (l : List Int) : AV := .sl (bools (tabB n l)) (2 ^ n) .no
abbrev o24b (n : Nat) (l : List Int) (r : Room) (j : Nat) (s : Int) : List Out :=
  [.mk Unit .ret [4] (fun _ => ¬ ptj n l s n) (fun _ => [.bool false]) (fun _ => .nil) (fun _ => []),
   .mk Unit (.exit 2) [0, 1, 5, 16, 17, 18] (fun _ => ptj n l s n) (fun _ => [I n, ls l r, tA n l, ls l r, I l.length, I j]) (fun _ => .nil) (fun _ => [])]
theorem simp24b : allSimpleM none1 (loopAt Tryd.f24 1) = true := by kernel_rfl
theorem simp24 : allSimpleM none1 (loopAt Tryd.f24 0) = true := by kernel_rfl
theorem lp24b (n : Nat) (l : List Int) (r : Room) (j : Nat) (s : Int) (hn : n ≤ 6) (hs : 0 ≤ s ∧ s < ((2 ^ n : Nat) : Int)) :
    LoopS (En6 [c21.to, c73.to]) (loopAt Tryd.f24 1) 48 [0, 1, 5, 7, 16, 17, 18, 34, 35] [I n, ls l r, tA n l, I s, ls l r, I l.length, I j, I n, I 0] .nil (o24b n l r j s) := by
  have hR : Rests (En6 [c21.to, c73.to]) none1 := rests mixed (.pure _ (.pure _ .nil))
  refine loop_s hR simp24b none (by intro _ h; cases h) (fun k vs h => h = .nil ∧ vs = [I n, ls l r, tA n l, I s, ls l r, I l.length, I j, I n, I k] ∧ ptj n l s k) n ⟨rfl, rfl, fun x hx => absurd hx (Nat.not_lt_zero _)⟩ (by intro _ h; cases h) ?_
  rintro k vs h hk ⟨rfl, rfl, hI⟩
  by_cases hz : (k : Int) < n
  · have hz' : k < n := by omega
    have ev0 := pw_shl (n := k) (by omega)
    have hp := p64 hn
    have ev1 : IntKind.i64.wrap ((BitVec.ofInt IntKind.i64.bits s &&& ~~~BitVec.ofInt IntKind.i64.bits ((2 ^ k : Nat) : Int)).toNat : Int) = ((andn s.toNat (2 ^ k) : Nat) : Int) := by
      obtain ⟨a, rfl⟩ : ∃ a : Nat, s = a := ⟨s.toNat, by omega⟩
      rw [Int.toNat_natCast]; exact i_andn (by omega)
    have hlt : andn s.toNat (2 ^ k) < 2 ^ n := Nat.lt_of_le_of_lt (andn_le (by omega)) (by omega)
    have hg := tab_get (n := n) (l := l) hlt
    have hlt2 : andn s.toNat (2 ^ k) < (tabB n l).length := by rw [tab_len]; exact hlt
    have ev2 : IntKind.i64.wrap ((k : Int) + 1) = ((k + 1 : Nat) : Int) := by rw [wr _ (by omega) (by omega)]; omega
    generalize hm : andn s.toNat (2 ^ k) = m at hg hlt hlt2 ev1
    have hT : (tabB n l).getD m b0 = true → ptj n l s (k + 1) := fun h x hx => by
      by_cases e : x = k
      · subst e; rw [hm]; rw [hg] at h; exact of_decide_eq_true h
      · exact hI x (by omega)
    have hF : (tabB n l).getD m b0 = false → ¬ ptj n l s n := fun h q => by
      have := q k hz'
      rw [hm] at this; rw [hg] at h; exact of_decide_eq_false h this
    refine ⟨[Ans.o (Orc.b true), Ans.o (Orc.val 41 (I (↑((2 : Nat) ^ k) : Int)) H.nil), Ans.o (Orc.val 42 (I (↑m : Int)) H.nil), Ans.o (Orc.val 43 (AV.cptr (bools (List.drop m (tabB n l)))) H.nil), Ans.vfork (44 : Nat) ((tabB n l).getD m b0) H.nil [Ans.o (Orc.val 46 (I (↑(k + (1 : Nat)) : Int)) H.nil)] []], fun u => of_eq ((↑k : Int) < (↑n : Int) ∧ aBin Tryd.prog BinOp.shl (3 : Nat) (I 1) (I (↑k : Int)) = some (I (↑((2 : Nat) ^ k) : Int)) ∧ aBin Tryd.prog BinOp.andNot (3 : Nat) (I s) (I (↑((2 : Nat) ^ k) : Int)) = some (I (↑m : Int)) ∧ aIndexAddr Tryd.prog (84 : Nat) (AV.sl (bools (tabB n l)) ((2 : Nat) ^ n) Room.no) (I (↑m : Int)) = some (AV.cptr (bools (List.drop m (tabB n l)))) ∧ aLoad Tryd.prog (4 : Nat) (bools (List.drop m (tabB n l))) = some (AV.bool ((tabB n l).getD m b0)) ∧ ((tabB n l).getD m b0 = true → aBin Tryd.prog BinOp.add (3 : Nat) (I (↑k : Int)) (I 1) = some (I (↑(k + (1 : Nat)) : Int)) ∧ (48 : Nat) = (48 : Nat) ∧ k < n ∧ Keep (H.mk [] [] [] = H.mk [] [] [] ∧ [I (↑n : Int), AV.sl (ints l) l.length r, AV.sl (bools (tabB n l)) ((2 : Nat) ^ n) Room.no, I s, AV.sl (ints l) l.length r, I (↑l.length : Int), I (↑j : Int), I (↑n : Int), I (↑(k + (1 : Nat)) : Int)] = [I (↑n : Int), AV.sl (ints l) l.length r, AV.sl (bools (tabB n l)) ((2 : Nat) ^ n) Room.no, I s, AV.sl (ints l) l.length r, I (↑l.length : Int), I (↑j : Int), I (↑n : Int), I (↑(k + (1 : Nat)) : Int)] ∧ ptj n l s (k + (1 : Nat)))) ∧ ((tabB n l).getD m b0 = false → (48 : Nat) = (48 : Nat) ∧ hits [Out.mk Unit AX.ret [(4 : Nat)] (fun x => ¬ptj n l s n) (fun x => [AV.bool false]) (fun x => H.nil) fun x => [], Out.mk Unit (AX.exit (2 : Nat)) [(0 : Nat), (1 : Nat), (5 : Nat), (16 : Nat), (17 : Nat), (18 : Nat)] (fun x => ptj n l s n) (fun x => [I (↑n : Int), ls l r, tA n l, ls l r, I (↑l.length : Int), I (↑j : Int)]) (fun x => H.nil) fun x => []] AX.ret [I (↑n : Int), AV.sl (ints l) l.length r, u (2 : Nat), u (3 : Nat), AV.bool false, AV.sl (bools (tabB n l)) ((2 : Nat) ^ n) Room.no, u (6 : Nat), I s, I (↑k : Int), u (9 : Nat), u (10 : Nat), u (11 : Nat), u (12 : Nat), u (13 : Nat), u (14 : Nat), u (15 : Nat), AV.sl (ints l) l.length r, I (↑l.length : Int), I (↑j : Int), u (19 : Nat), u (20 : Nat), u (21 : Nat), u (22 : Nat), u (23 : Nat), u (24 : Nat), u (25 : Nat), u (26 : Nat), u (27 : Nat), u (28 : Nat), u (29 : Nat), u (30 : Nat), u (31 : Nat), u (32 : Nat), u (33 : Nat), I (↑n : Int), I (↑k : Int), AV.bool true, I (↑k : Int), AV.sl (bools (tabB n l)) ((2 : Nat) ^ n) Room.no, I s, I (↑k : Int), I (↑((2 : Nat) ^ k) : Int), I (↑m : Int), AV.cptr (bools (List.drop m (tabB n l))), AV.bool false, AV.bool true, u (46 : Nat), u (47 : Nat)] (H.mk [] [] []))) (by kernel_rfl) ?_⟩
    refine ⟨by first | with_reducible assumption | omega | assumption, ?_⟩
    refine ⟨by first | exact told_shl (by first | exact Int.natCast_nonneg _ | omega) (by with_reducible assumption) | exact told_shl (by omega) rfl, ?_⟩
    refine ⟨told_andn (by with_reducible assumption), ?_⟩
    refine ⟨ix_bools (by kernel_rfl) hlt no_ne, ?_⟩
    refine ⟨by first | exact ld_bools (by kernel_rfl) (by kernel_rfl) (by omega) | exact ldm_bools (by kernel_rfl) (by kernel_rfl) (by first | omega | (simp; omega)), ?_⟩
    refine And.intro ?_ ?_
    · skip
      intro w0
      refine ⟨told_add (by with_reducible assumption), ?_⟩
      refine ⟨by first | with_reducible assumption | omega | assumption, ?_⟩
      refine ⟨by first | with_reducible assumption | omega | assumption, ?_⟩
      exact ⟨rfl, rfl, hT w0⟩
    · skip
      intro w0
      refine ⟨by first | with_reducible assumption | omega | assumption, ?_⟩
      exact .inl ⟨(), hF w0, rfl, rfl, rfl⟩
  · have hz : (n : Int) ≤ k := by omega
    have hk' : k = n := by omega
    subst hk'
    refine ⟨[Ans.o (Orc.b false)], fun u => of_eq ((↑k : Int) ≤ (↑k : Int) ∧ (48 : Nat) = (48 : Nat) ∧ hits [Out.mk Unit AX.ret [(4 : Nat)] (fun x => ¬ptj k l s k) (fun x => [AV.bool false]) (fun x => H.nil) fun x => [], Out.mk Unit (AX.exit (2 : Nat)) [(0 : Nat), (1 : Nat), (5 : Nat), (16 : Nat), (17 : Nat), (18 : Nat)] (fun x => ptj k l s k) (fun x => [I (↑k : Int), ls l r, tA k l, ls l r, I (↑l.length : Int), I (↑j : Int)]) (fun x => H.nil) fun x => []] (AX.exit (2 : Nat)) [I (↑k : Int), AV.sl (ints l) l.length r, u (2 : Nat), u (3 : Nat), u (4 : Nat), AV.sl (bools (tabB k l)) ((2 : Nat) ^ k) Room.no, u (6 : Nat), I s, u (8 : Nat), u (9 : Nat), u (10 : Nat), u (11 : Nat), u (12 : Nat), u (13 : Nat), u (14 : Nat), u (15 : Nat), AV.sl (ints l) l.length r, I (↑l.length : Int), I (↑j : Int), u (19 : Nat), u (20 : Nat), u (21 : Nat), u (22 : Nat), u (23 : Nat), u (24 : Nat), u (25 : Nat), u (26 : Nat), u (27 : Nat), u (28 : Nat), u (29 : Nat), u (30 : Nat), u (31 : Nat), u (32 : Nat), u (33 : Nat), I (↑k : Int), I (↑k : Int), AV.bool false, u (37 : Nat), u (38 : Nat), u (39 : Nat), u (40 : Nat), u (41 : Nat), u (42 : Nat), u (43 : Nat), u (44 : Nat), u (45 : Nat), u (46 : Nat), u (47 : Nat)] (H.mk [] [] [])) (by kernel_rfl) ?_⟩
    refine ⟨by first | with_reducible assumption | omega | assumption, ?_⟩
    refine ⟨by first | with_reducible assumption | omega | assumption, ?_⟩
    exact .inr (.inl ⟨(), hI, rfl, rfl, rfl⟩)
abbrev o24 (n : Nat) (l : List Int) : List Out :=
  [.mk Unit .ret [4] (fun _ => ¬ ∀ j, j < l.length → okj n l j) (fun _ => [.bool false]) (fun _ => .nil) (fun _ => []),
   .mk Unit (.exit 0) [] (fun _ => ∀ j, j < l.length → okj n l j) (fun _ => []) (fun _ => .nil) (fun _ => [])]
theorem lp24 (n : Nat) (l : List Int) (r : Room) (hn : n ≤ 6) (h0 : lim l.length) (h1 : rok l r) (h2 : oks n l) :
    LoopS (En6 [c21.to, c73.to]) (loopAt Tryd.f24 0) 48 [0, 1, 5, 16, 17, 18] [I n, ls l r, tA n l, ls l r, I l.length, I 0] .nil (o24 n l) := by
  have hR : Rests (En6 [c21.to, c73.to]) none1 := rests mixed (.pure _ (.pure _ .nil))
  refine loop_s hR simp24 none (by intro _ h; cases h) (fun j vs h => h = .nil ∧ vs = [I n, ls l r, tA n l, ls l r, I l.length, I j] ∧ ∀ i, i < j → okj n l i) l.length ⟨rfl, rfl, fun i hi => absurd hi (Nat.not_lt_zero _)⟩ (by intro _ h; cases h) ?_
  rintro j vs h hj ⟨rfl, rfl, hI⟩
  by_cases hz : (j : Int) < l.length
  · have hz' : j < l.length := by omega
    have hr := rok_idx h1 hz'
    have hin := lp24b n l r j (ia l j) hn (h2 j hz')
    have ev0 : IntKind.i64.wrap ((j : Int) + 1) = ((j + 1 : Nat) : Int) := by rw [wr _ (by omega) (by omega)]; omega
    have hstep : okj n l j → ∀ i, i < j + 1 → okj n l i := fun h i hi => by
      by_cases e : i = j
      · subst e; exact h
      · exact hI i (by omega)
    by_cases hj0 : 0 < j
    · have hj0' : (0 : Int) < j := by omega
      have ev1 : IntKind.i64.wrap ((j : Int) - 1) = ((j - 1 : Nat) : Int) := by rw [wr _ (by omega) (by omega)]; omega
      have hj1 : j - 1 < l.length := by omega
      by_cases hlt : ia l (j - 1) < ia l j
      · refine ⟨[Ans.o (Orc.b true), Ans.o (Orc.val 21 (AV.cptr (ints (List.drop j l))) H.nil), Ans.o (Orc.val 22 (I (l.getD j i0)) H.nil), Ans.o (Orc.b true), Ans.o (Orc.val 28 (I (↑(j - (1 : Nat)) : Int)) H.nil), Ans.o (Orc.val 29 (AV.cptr (ints (List.drop (j - (1 : Nat)) l))) H.nil), Ans.o (Orc.val 30 (I (l.getD (j - (1 : Nat)) i0)) H.nil), Ans.o (Orc.b false), Ans.loop [(0 : Nat), (1 : Nat), (5 : Nat), (7 : Nat), (16 : Nat), (17 : Nat), (18 : Nat), (34 : Nat), (35 : Nat)] [Out.mk Unit AX.ret [(4 : Nat)] (fun x => ¬ptj n l (ia l j) n) (fun x => [AV.bool false]) (fun x => H.nil) fun y => [], Out.mk Unit (AX.exit (2 : Nat)) [(0 : Nat), (1 : Nat), (5 : Nat), (16 : Nat), (17 : Nat), (18 : Nat)] (fun x => ptj n l (ia l j) n) (fun x => [I (↑n : Int), ls l r, tA n l, ls l r, I (↑l.length : Int), I (↑j : Int)]) (fun x => H.nil) fun y => [Ans.o (Orc.val 47 (I (↑(j + (1 : Nat)) : Int)) H.nil)]]], fun u => of_eq ((↑j : Int) < (↑l.length : Int) ∧ aIndexAddr Tryd.prog (22 : Nat) (AV.sl (ints l) l.length r) (I (↑j : Int)) = some (AV.cptr (ints (List.drop j l))) ∧ aLoad Tryd.prog (3 : Nat) (ints (List.drop j l)) = some (I (l.getD j i0)) ∧ (0 : Int) < (↑j : Int) ∧ aBin Tryd.prog BinOp.sub (3 : Nat) (I (↑j : Int)) (I 1) = some (I (↑(j - (1 : Nat)) : Int)) ∧ aIndexAddr Tryd.prog (22 : Nat) (AV.sl (ints l) l.length r) (I (↑(j - (1 : Nat)) : Int)) = some (AV.cptr (ints (List.drop (j - (1 : Nat)) l))) ∧ aLoad Tryd.prog (3 : Nat) (ints (List.drop (j - (1 : Nat)) l)) = some (I (l.getD (j - (1 : Nat)) i0)) ∧ l.getD (j - (1 : Nat)) i0 < l.getD j i0 ∧ LoopS (Env.mk Tryd.prog (Sof [c21.to, c73.to]) (Pof (P := Tryd.prog) []) H.nil.base (300 : Nat)) (loopAt Tryd.f24 (1 : Nat)) (48 : Nat) [(0 : Nat), (1 : Nat), (5 : Nat), (7 : Nat), (16 : Nat), (17 : Nat), (18 : Nat), (34 : Nat), (35 : Nat)] [I (↑n : Int), AV.sl (ints l) l.length r, AV.sl (bools (tabB n l)) ((2 : Nat) ^ n) Room.no, I (l.getD j i0), AV.sl (ints l) l.length r, I (↑l.length : Int), I (↑j : Int), I (↑n : Int), I 0] (H.mk [] [] []) [Out.mk Unit AX.ret [(4 : Nat)] (fun x => ¬ptj n l (ia l j) n) (fun x => [AV.bool false]) (fun x => H.nil) fun y => [], Out.mk Unit (AX.exit (2 : Nat)) [(0 : Nat), (1 : Nat), (5 : Nat), (16 : Nat), (17 : Nat), (18 : Nat)] (fun x => ptj n l (ia l j) n) (fun x => [I (↑n : Int), ls l r, tA n l, ls l r, I (↑l.length : Int), I (↑j : Int)]) (fun x => H.nil) fun y => [Ans.o (Orc.val 47 (I (↑(j + (1 : Nat)) : Int)) H.nil)]] ∧ (∀ (y : Unit), ¬ptj n l (ia l j) n → ∀ (u : Nat → AV), (48 : Nat) = (48 : Nat) ∧ hits [Out.mk Unit AX.ret [(4 : Nat)] (fun x => ¬∀ (j : Nat), j < l.length → okj n l j) (fun x => [AV.bool false]) (fun x => H.nil) fun x => [], Out.mk Unit (AX.exit (0 : Nat)) [] (fun x => ∀ (j : Nat), j < l.length → okj n l j) (fun x => []) (fun x => H.nil) fun x => []] AX.ret [u (0 : Nat), u (1 : Nat), u (2 : Nat), u (3 : Nat), AV.bool false, u (5 : Nat), u (6 : Nat), u (7 : Nat), u (8 : Nat), u (9 : Nat), u (10 : Nat), u (11 : Nat), u (12 : Nat), u (13 : Nat), u (14 : Nat), u (15 : Nat), u (16 : Nat), u (17 : Nat), u (18 : Nat), u (19 : Nat), u (20 : Nat), u (21 : Nat), u (22 : Nat), u (23 : Nat), u (24 : Nat), u (25 : Nat), u (26 : Nat), u (27 : Nat), u (28 : Nat), u (29 : Nat), u (30 : Nat), u (31 : Nat), u (32 : Nat), u (33 : Nat), u (34 : Nat), u (35 : Nat), u (36 : Nat), u (37 : Nat), u (38 : Nat), u (39 : Nat), u (40 : Nat), u (41 : Nat), u (42 : Nat), u (43 : Nat), u (44 : Nat), u (45 : Nat), u (46 : Nat), u (47 : Nat)] (H.mk [] [] [])) ∧ (∀ (y : Unit), (∀ (x : Nat), x < n → List.Mem (↑(andn (ia l j).toNat ((2 : Nat) ^ x)) : Int) l) → ∀ (u : Nat → AV), aBin Tryd.prog BinOp.add (3 : Nat) (I (↑j : Int)) (I 1) = some (I (↑(j + (1 : Nat)) : Int)) ∧ (48 : Nat) = (48 : Nat) ∧ j < l.length ∧ Keep (H.mk [] [] [] = H.mk [] [] [] ∧ [I (↑n : Int), AV.sl (ints l) l.length r, AV.sl (bools (tabB n l)) ((2 : Nat) ^ n) Room.no, AV.sl (ints l) l.length r, I (↑l.length : Int), I (↑(j + (1 : Nat)) : Int)] = [I (↑n : Int), AV.sl (ints l) l.length r, AV.sl (bools (tabB n l)) ((2 : Nat) ^ n) Room.no, AV.sl (ints l) l.length r, I (↑l.length : Int), I (↑(j + (1 : Nat)) : Int)] ∧ ∀ (i : Nat), i < j + (1 : Nat) → okj n l i)) ∧ True) (by kernel_rfl) ?_⟩
        refine ⟨by first | with_reducible assumption | omega | assumption, ?_⟩
        refine ⟨by first | exact ix_ints (by kernel_rfl) (by omega) hr | exact ix_ints (by kernel_rfl) hj1 hr, ?_⟩
        refine ⟨by first | exact ld_ints (by kernel_rfl) (by kernel_rfl) (by omega) | exact ldm_ints (by kernel_rfl) (by kernel_rfl) (by first | omega | (simp; omega)), ?_⟩
        refine ⟨by first | with_reducible assumption | omega | assumption, ?_⟩
        refine ⟨told_sub (by with_reducible assumption), ?_⟩
        refine ⟨by first | exact ix_ints (by kernel_rfl) (by omega) hr | exact ix_ints (by kernel_rfl) hj1 hr, ?_⟩
        refine ⟨by first | exact ld_ints (by kernel_rfl) (by kernel_rfl) (by omega) | exact ldm_ints (by kernel_rfl) (by kernel_rfl) (by first | omega | (simp; omega)), ?_⟩
        refine ⟨by first | with_reducible assumption | omega | assumption, ?_⟩
        refine ⟨hin, ?_⟩
        refine And.intro ?_ ?_
        · skip
          intro y
          intro w1
          intro u
          refine ⟨by first | with_reducible assumption | omega | assumption, ?_⟩
          exact .inl ⟨(), fun h => absurd (h j hz').2 (by assumption), rfl, rfl, rfl⟩
        · skip
          refine And.intro ?_ ?_
          · skip
            intro y
            intro w1
            intro u
            refine ⟨told_add (by with_reducible assumption), ?_⟩
            refine ⟨by first | with_reducible assumption | omega | assumption, ?_⟩
            refine ⟨by first | with_reducible assumption | omega | assumption, ?_⟩
            exact ⟨rfl, rfl, hstep ⟨.inr hlt, by assumption⟩⟩
          · skip
            trivial
      · have hge : ia l j ≤ ia l (j - 1) := by omega
        have hbad : ¬ ∀ i, i < l.length → okj n l i := fun h => by
          rcases (h j hz').1 with q | q
          · omega
          · exact hlt q
        refine ⟨[Ans.o (Orc.b true), Ans.o (Orc.val 21 (AV.cptr (ints (List.drop j l))) H.nil), Ans.o (Orc.val 22 (I (l.getD j i0)) H.nil), Ans.o (Orc.b true), Ans.o (Orc.val 28 (I (↑(j - (1 : Nat)) : Int)) H.nil), Ans.o (Orc.val 29 (AV.cptr (ints (List.drop (j - (1 : Nat)) l))) H.nil), Ans.o (Orc.val 30 (I (l.getD (j - (1 : Nat)) i0)) H.nil), Ans.o (Orc.b true)], fun u => of_eq ((↑j : Int) < (↑l.length : Int) ∧ aIndexAddr Tryd.prog (22 : Nat) (AV.sl (ints l) l.length r) (I (↑j : Int)) = some (AV.cptr (ints (List.drop j l))) ∧ aLoad Tryd.prog (3 : Nat) (ints (List.drop j l)) = some (I (l.getD j i0)) ∧ (0 : Int) < (↑j : Int) ∧ aBin Tryd.prog BinOp.sub (3 : Nat) (I (↑j : Int)) (I 1) = some (I (↑(j - (1 : Nat)) : Int)) ∧ aIndexAddr Tryd.prog (22 : Nat) (AV.sl (ints l) l.length r) (I (↑(j - (1 : Nat)) : Int)) = some (AV.cptr (ints (List.drop (j - (1 : Nat)) l))) ∧ aLoad Tryd.prog (3 : Nat) (ints (List.drop (j - (1 : Nat)) l)) = some (I (l.getD (j - (1 : Nat)) i0)) ∧ l.getD j i0 ≤ l.getD (j - (1 : Nat)) i0 ∧ (48 : Nat) = (48 : Nat) ∧ hits [Out.mk Unit AX.ret [(4 : Nat)] (fun x => ¬∀ (j : Nat), j < l.length → okj n l j) (fun x => [AV.bool false]) (fun x => H.nil) fun x => [], Out.mk Unit (AX.exit (0 : Nat)) [] (fun x => ∀ (j : Nat), j < l.length → okj n l j) (fun x => []) (fun x => H.nil) fun x => []] AX.ret [I (↑n : Int), AV.sl (ints l) l.length r, u (2 : Nat), u (3 : Nat), AV.bool false, AV.sl (bools (tabB n l)) ((2 : Nat) ^ n) Room.no, I (↑j : Int), I (l.getD j i0), u (8 : Nat), u (9 : Nat), u (10 : Nat), u (11 : Nat), u (12 : Nat), u (13 : Nat), u (14 : Nat), u (15 : Nat), AV.sl (ints l) l.length r, I (↑l.length : Int), I (↑j : Int), AV.bool true, I (↑j : Int), AV.cptr (ints (List.drop j l)), I (l.getD j i0), I (↑j : Int), AV.bool true, AV.bool true, AV.sl (ints l) l.length r, I (↑j : Int), I (↑(j - (1 : Nat)) : Int), AV.cptr (ints (List.drop (j - (1 : Nat)) l)), I (l.getD (j - (1 : Nat)) i0), I (l.getD j i0), AV.bool true, AV.bool true, u (34 : Nat), u (35 : Nat), u (36 : Nat), u (37 : Nat), u (38 : Nat), u (39 : Nat), u (40 : Nat), u (41 : Nat), u (42 : Nat), u (43 : Nat), u (44 : Nat), u (45 : Nat), u (46 : Nat), u (47 : Nat)] (H.mk [] [] [])) (by kernel_rfl) ?_⟩
        refine ⟨by first | with_reducible assumption | omega | assumption, ?_⟩
        refine ⟨by first | exact ix_ints (by kernel_rfl) (by omega) hr | exact ix_ints (by kernel_rfl) hj1 hr, ?_⟩
        refine ⟨by first | exact ld_ints (by kernel_rfl) (by kernel_rfl) (by omega) | exact ldm_ints (by kernel_rfl) (by kernel_rfl) (by first | omega | (simp; omega)), ?_⟩
        refine ⟨by first | with_reducible assumption | omega | assumption, ?_⟩
        refine ⟨told_sub (by with_reducible assumption), ?_⟩
        refine ⟨by first | exact ix_ints (by kernel_rfl) (by omega) hr | exact ix_ints (by kernel_rfl) hj1 hr, ?_⟩
        refine ⟨by first | exact ld_ints (by kernel_rfl) (by kernel_rfl) (by omega) | exact ldm_ints (by kernel_rfl) (by kernel_rfl) (by first | omega | (simp; omega)), ?_⟩
        refine ⟨by first | with_reducible assumption | omega | assumption, ?_⟩
        refine ⟨by first | with_reducible assumption | omega | assumption, ?_⟩
        exact .inl ⟨(), hbad, rfl, rfl, rfl⟩
    · have hj0' : (j : Int) ≤ 0 := by omega
      have he : j = 0 := by omega
      refine ⟨[Ans.o (Orc.b true), Ans.o (Orc.val 21 (AV.cptr (ints (List.drop j l))) H.nil), Ans.o (Orc.val 22 (I (l.getD j i0)) H.nil), Ans.o (Orc.b false), Ans.loop [(0 : Nat), (1 : Nat), (5 : Nat), (7 : Nat), (16 : Nat), (17 : Nat), (18 : Nat), (34 : Nat), (35 : Nat)] [Out.mk Unit AX.ret [(4 : Nat)] (fun x => ¬ptj n l (ia l j) n) (fun x => [AV.bool false]) (fun x => H.nil) fun y => [], Out.mk Unit (AX.exit (2 : Nat)) [(0 : Nat), (1 : Nat), (5 : Nat), (16 : Nat), (17 : Nat), (18 : Nat)] (fun x => ptj n l (ia l j) n) (fun x => [I (↑n : Int), ls l r, tA n l, ls l r, I (↑l.length : Int), I (↑j : Int)]) (fun x => H.nil) fun y => [Ans.o (Orc.val 47 (I (↑(j + (1 : Nat)) : Int)) H.nil)]]], fun u => of_eq ((↑j : Int) < (↑l.length : Int) ∧ aIndexAddr Tryd.prog (22 : Nat) (AV.sl (ints l) l.length r) (I (↑j : Int)) = some (AV.cptr (ints (List.drop j l))) ∧ aLoad Tryd.prog (3 : Nat) (ints (List.drop j l)) = some (I (l.getD j i0)) ∧ (↑j : Int) ≤ (0 : Int) ∧ LoopS (Env.mk Tryd.prog (Sof [c21.to, c73.to]) (Pof (P := Tryd.prog) []) H.nil.base (300 : Nat)) (loopAt Tryd.f24 (1 : Nat)) (48 : Nat) [(0 : Nat), (1 : Nat), (5 : Nat), (7 : Nat), (16 : Nat), (17 : Nat), (18 : Nat), (34 : Nat), (35 : Nat)] [I (↑n : Int), AV.sl (ints l) l.length r, AV.sl (bools (tabB n l)) ((2 : Nat) ^ n) Room.no, I (l.getD j i0), AV.sl (ints l) l.length r, I (↑l.length : Int), I (↑j : Int), I (↑n : Int), I 0] (H.mk [] [] []) [Out.mk Unit AX.ret [(4 : Nat)] (fun x => ¬ptj n l (ia l j) n) (fun x => [AV.bool false]) (fun x => H.nil) fun y => [], Out.mk Unit (AX.exit (2 : Nat)) [(0 : Nat), (1 : Nat), (5 : Nat), (16 : Nat), (17 : Nat), (18 : Nat)] (fun x => ptj n l (ia l j) n) (fun x => [I (↑n : Int), ls l r, tA n l, ls l r, I (↑l.length : Int), I (↑j : Int)]) (fun x => H.nil) fun y => [Ans.o (Orc.val 47 (I (↑(j + (1 : Nat)) : Int)) H.nil)]] ∧ (∀ (y : Unit), ¬ptj n l (ia l j) n → ∀ (u : Nat → AV), (48 : Nat) = (48 : Nat) ∧ hits [Out.mk Unit AX.ret [(4 : Nat)] (fun x => ¬∀ (j : Nat), j < l.length → okj n l j) (fun x => [AV.bool false]) (fun x => H.nil) fun x => [], Out.mk Unit (AX.exit (0 : Nat)) [] (fun x => ∀ (j : Nat), j < l.length → okj n l j) (fun x => []) (fun x => H.nil) fun x => []] AX.ret [u (0 : Nat), u (1 : Nat), u (2 : Nat), u (3 : Nat), AV.bool false, u (5 : Nat), u (6 : Nat), u (7 : Nat), u (8 : Nat), u (9 : Nat), u (10 : Nat), u (11 : Nat), u (12 : Nat), u (13 : Nat), u (14 : Nat), u (15 : Nat), u (16 : Nat), u (17 : Nat), u (18 : Nat), u (19 : Nat), u (20 : Nat), u (21 : Nat), u (22 : Nat), u (23 : Nat), u (24 : Nat), u (25 : Nat), u (26 : Nat), u (27 : Nat), u (28 : Nat), u (29 : Nat), u (30 : Nat), u (31 : Nat), u (32 : Nat), u (33 : Nat), u (34 : Nat), u (35 : Nat), u (36 : Nat), u (37 : Nat), u (38 : Nat), u (39 : Nat), u (40 : Nat), u (41 : Nat), u (42 : Nat), u (43 : Nat), u (44 : Nat), u (45 : Nat), u (46 : Nat), u (47 : Nat)] (H.mk [] [] [])) ∧ (∀ (y : Unit), (∀ (x : Nat), x < n → List.Mem (↑(andn (ia l j).toNat ((2 : Nat) ^ x)) : Int) l) → ∀ (u : Nat → AV), aBin Tryd.prog BinOp.add (3 : Nat) (I (↑j : Int)) (I 1) = some (I (↑(j + (1 : Nat)) : Int)) ∧ (48 : Nat) = (48 : Nat) ∧ j < l.length ∧ Keep (H.mk [] [] [] = H.mk [] [] [] ∧ [I (↑n : Int), AV.sl (ints l) l.length r, AV.sl (bools (tabB n l)) ((2 : Nat) ^ n) Room.no, AV.sl (ints l) l.length r, I (↑l.length : Int), I (↑(j + (1 : Nat)) : Int)] = [I (↑n : Int), AV.sl (ints l) l.length r, AV.sl (bools (tabB n l)) ((2 : Nat) ^ n) Room.no, AV.sl (ints l) l.length r, I (↑l.length : Int), I (↑(j + (1 : Nat)) : Int)] ∧ ∀ (i : Nat), i < j + (1 : Nat) → okj n l i)) ∧ True) (by kernel_rfl) ?_⟩
      refine ⟨by first | with_reducible assumption | omega | assumption, ?_⟩
      refine ⟨by first | exact ix_ints (by kernel_rfl) (by omega) hr, ?_⟩
      refine ⟨by first | exact ld_ints (by kernel_rfl) (by kernel_rfl) (by omega) | exact ldm_ints (by kernel_rfl) (by kernel_rfl) (by first | omega | (simp; omega)), ?_⟩
      refine ⟨by first | with_reducible assumption | omega | assumption, ?_⟩
      refine ⟨hin, ?_⟩
      refine And.intro ?_ ?_
      · skip
        intro y
        intro w1
        intro u
        refine ⟨by first | with_reducible assumption | omega | assumption, ?_⟩
        exact .inl ⟨(), fun h => absurd (h j hz').2 (by assumption), rfl, rfl, rfl⟩
      · skip
        refine And.intro ?_ ?_
        · skip
          intro y
          intro w1
          intro u
          refine ⟨told_add (by with_reducible assumption), ?_⟩
          refine ⟨by first | with_reducible assumption | omega | assumption, ?_⟩
          refine ⟨by first | with_reducible assumption | omega | assumption, ?_⟩
          exact ⟨rfl, rfl, hstep ⟨.inl he, by assumption⟩⟩
        · skip
          trivial
  · have hz : (l.length : Int) ≤ j := by omega
    have hj' : j = l.length := by omega
    subst hj'
    refine ⟨[Ans.o (Orc.b false)], fun u => of_eq ((↑l.length : Int) ≤ (↑l.length : Int) ∧ (48 : Nat) = (48 : Nat) ∧ hits [Out.mk Unit AX.ret [(4 : Nat)] (fun x => ¬∀ (j : Nat), j < l.length → okj n l j) (fun x => [AV.bool false]) (fun x => H.nil) fun x => [], Out.mk Unit (AX.exit (0 : Nat)) [] (fun x => ∀ (j : Nat), j < l.length → okj n l j) (fun x => []) (fun x => H.nil) fun x => []] (AX.exit (0 : Nat)) [I (↑n : Int), AV.sl (ints l) l.length r, u (2 : Nat), u (3 : Nat), u (4 : Nat), AV.sl (bools (tabB n l)) ((2 : Nat) ^ n) Room.no, u (6 : Nat), u (7 : Nat), u (8 : Nat), u (9 : Nat), u (10 : Nat), u (11 : Nat), u (12 : Nat), u (13 : Nat), u (14 : Nat), u (15 : Nat), AV.sl (ints l) l.length r, I (↑l.length : Int), I (↑l.length : Int), AV.bool false, u (20 : Nat), u (21 : Nat), u (22 : Nat), u (23 : Nat), u (24 : Nat), u (25 : Nat), u (26 : Nat), u (27 : Nat), u (28 : Nat), u (29 : Nat), u (30 : Nat), u (31 : Nat), u (32 : Nat), u (33 : Nat), u (34 : Nat), u (35 : Nat), u (36 : Nat), u (37 : Nat), u (38 : Nat), u (39 : Nat), u (40 : Nat), u (41 : Nat), u (42 : Nat), u (43 : Nat), u (44 : Nat), u (45 : Nat), u (46 : Nat), u (47 : Nat)] (H.mk [] [] [])) (by kernel_rfl) ?_⟩
    refine ⟨by first | with_reducible assumption | omega | assumption, ?_⟩
    refine ⟨by first | with_reducible assumption | omega | assumption, ?_⟩
    exact .inr (.inl ⟨(), hI, rfl, rfl, rfl⟩)
theorem consec {l : List Int} (h : ∀ j, j < l.length → j = 0 ∨ ia l (j - 1) < ia l j) : ∀ (b a : Nat), a < b → b < l.length → ia l a < ia l b
  | 0, a, h1, _ => absurd h1 (Nat.not_lt_zero _)
  | b + 1, a, h1, h2 => by
    have e := h (b + 1) h2
    rcases e with e | e
    · omega
    · rw [Nat.add_sub_cancel] at e
      by_cases q : a = b
      · subst q; exact e
      · have := consec h b a (by omega) (by omega); omega
theorem ia_mem {l : List Int} {i : Nat} (h : i < l.length) : ia l i ∈ l := by
  simp [List.getD_eq_getElem?_getD, h]
theorem mem_lst {F : W} {s : Nat} : ((s : Nat) : Int) ∈ lst F ↔ hs F s = true := by
  rw [← Go.Proofs.Sur.mem_bits]
  simp only [lst, ic, List.mem_map]
  constructor
  · rintro ⟨a, h1, h2⟩
    have : a = s := by omega
    subst this; exact h1
  · intro h; exact ⟨s, h, rfl⟩
/-- what the reference asks for -/
theorem fam_iff {n : Int} {l : List Int} : (okS n l ∧ ∀ j, j < l.length → okj n.toNat l j) ↔ ∃ F, Fm n l F := by
  constructor
  · rintro ⟨ho, hj⟩
    have hc := consec (fun j h => (hj j h).1)
    have hl64 : ∀ s ∈ nl l, s < 64 := fun s hs => by
      simp only [nl, List.mem_map] at hs
      obtain ⟨x, hx, rfl⟩ := hs
      obtain ⟨i, h1, h2⟩ := mem_ia hx
      have := ho.2.2 i h1
      have := p64 (n := n.toNat) (by have := ho.1; omega)
      rw [h2] at *
      omega
    have hsort : (nl l).Pairwise (· < ·) := by
      rw [List.pairwise_iff_getElem]
      intro a b ha hb hab
      have ha' : a < l.length := by simpa [nl] using ha
      have hb' : b < l.length := by simpa [nl] using hb
      have h1 := hc b a hab hb'
      have h2 := (ho.2.2 a ha').1
      have e1 : ia l a = l[a] := by simp [List.getD_eq_getElem?_getD, ha']
      have e2 : ia l b = l[b] := by simp [List.getD_eq_getElem?_getD, hb']
      simp only [nl, List.getElem_map]
      rw [e1] at h1 h2; rw [e2] at h1
      omega
    have he := (bits_fm hl64).2 hsort
    have hl : l = lst (fm (nl l)) := by
      rw [lst, elts] at *
      rw [he]
      simp only [ic, nl, List.map_map]
      have : l.map ((fun n : Nat => (n : Int)) ∘ Int.toNat) = l.map id := by
        apply List.map_congr_left
        intro x hx
        obtain ⟨i, h1, h2⟩ := mem_ia hx
        have := (ho.2.2 i h1).1
        rw [h2] at this
        simp only [Function.comp_apply, id_eq]; omega
      rw [this, List.map_id]
    have hrg := oks_rg ho.2.2
    have hdn : Dn (fm (nl l)) := dn_step n.toNat (by have := ho.1; omega) hrg (fun s hs' x hx => by
      have hm : ((s : Nat) : Int) ∈ l := by rw [hl]; exact mem_lst.2 hs'
      obtain ⟨i, h1, h2⟩ := mem_ia hm
      have := (hj i h1).2 x hx
      rw [h2, Int.toNat_natCast] at this
      rw [hl] at this
      exact mem_lst.1 this)
    exact ⟨_, ho.1.1, ho.1.2, hrg, hdn, hl⟩
  · rintro ⟨F, h⟩
    refine ⟨h.ok, fun j hj => ?_⟩
    have hl := h.eq
    have hj0 := hj
    rw [hl] at hj0
    obtain ⟨s, e, h1, h2⟩ := ia_lst hj0
    refine ⟨?_, fun x hx => ?_⟩
    · by_cases h0 : j = 0
      · exact .inl h0
      · right
        rw [hl]
        have hb : j < (elts F).length := by simpa using hj0
        have := (List.pairwise_iff_getElem.1 (bits_sorted F)) (j - 1) j (by omega) hb (by omega)
        rw [show ia (lst F) (j - 1) = (((elts F)[j - 1]'(by omega) : Nat) : Int) by simp [lst, ic, List.getD_eq_getElem?_getD, show j - 1 < (elts F).length by omega], show ia (lst F) j = (((elts F)[j] : Nat) : Int) by simp [lst, ic, List.getD_eq_getElem?_getD, hb]]
        omega
    · rw [hl, e, Int.toNat_natCast]
      exact mem_lst.2 (h.dn _ s h1 (andn_sub h2 _))
theorem ok24 : FokM Tryd.prog none1 24 Tryd.f24 := ⟨mixed, by kernel_rfl, by kernel_rfl, by kernel_rfl, by kernel_rfl⟩
open Classical in
noncomputable def famB (n : Int) (l : List Int) : Bool := decide (∃ F, Fm n l F)
open Classical in
theorem famB_t {n : Int} {l : List Int} (h : ∃ F, Fm n l F) : famB n l = true := by unfold famB; exact decide_eq_true h
open Classical in
theorem famB_f {n : Int} {l : List Int} (h : ¬ ∃ F, Fm n l F) : famB n l = false := by unfold famB; exact decide_eq_false h
theorem r24 (n : Int) (l : List Int) (r : Room) (h0 : lim l.length) (h1 : rok l r) : Body (En6 [c21.to, c73.to]) none1 Tryd.f24 [I n, ls l r] .nil (.bool (famB n l), .nil) := by
  cases hg : gB n l
  · have hF : famB n l = false := famB_f fun ⟨F, h⟩ => of_decide_eq_false hg h.ok
    rw [hF]
    refine body_s ([Ans.o (Orc.val 11 (AV.bool false) (H.mk [] [] []))]) (aCall (Sof [c21.to, c73.to]) (AV.fn (Fn.func (21 : Nat)) [] []) [I n, AV.sl (ints l) l.length r] (H.mk [] [] []) = some (AV.bool false, H.mk [] [] []) ∧ (AV.bool false, H.mk [] [] []) = (AV.bool false, H.mk [] [] [])) (by kernel_rfl) ?_
    refine ⟨acall_b (acall_hit (c := c21.to) (n, l, r) _ rfl ⟨h0, h1⟩) hg, ?_⟩
    first | with_reducible rfl | (refine bleaf_t ?_; omega) | (refine bleaf_f ?_; omega) | (refine ileaf ?_; omega) | rfl | (exfalso; omega)
  · have ho : okS n l := of_decide_eq_true hg
    obtain ⟨k, rfl⟩ : ∃ k : Nat, n = k := ⟨n.toNat, by have := ho.1; omega⟩
    have hk : k ≤ 6 := by have := ho.1; omega
    have h2 : oks k l := ho.2.2
    have hlp := lp24 k l r hk h0 h1 h2
    have p73 : (k ≤ 6 ∧ lim l.length) ∧ rok l r ∧ oks k l := ⟨⟨hk, h0⟩, h1, h2⟩
    have hT : (∀ j, j < l.length → okj k l j) → famB k l = true := fun h => famB_t (fam_iff.1 ⟨ho, h⟩)
    have hF : (¬ ∀ j, j < l.length → okj k l j) → famB k l = false := fun h => famB_f fun q => h (fam_iff.2 q).2
    refine body_s ([Ans.o (Orc.val 11 (AV.bool true) (H.mk [] [] [])), Ans.o (Orc.val 15 (AV.sl (bools (tabB k l)) ((2 : Nat) ^ k) Room.no) (H.mk [] [] [])), Ans.loop [(0 : Nat), (1 : Nat), (5 : Nat), (16 : Nat), (17 : Nat), (18 : Nat)] [Out.mk Unit AX.ret [(4 : Nat)] (fun x => ¬∀ (j : Nat), j < l.length → okj k l j) (fun x => [AV.bool false]) (fun x => H.nil) fun y => [], Out.mk Unit (AX.exit (0 : Nat)) [] (fun x => ∀ (j : Nat), j < l.length → okj k l j) (fun x => []) (fun x => H.nil) fun y => []]]) (aCall (Sof [c21.to, c73.to]) (AV.fn (Fn.func (21 : Nat)) [] []) [I (↑k : Int), AV.sl (ints l) l.length r] (H.mk [] [] []) = some (AV.bool true, H.mk [] [] []) ∧ aCall (Sof [c21.to, c73.to]) (AV.fn (Fn.func (73 : Nat)) [] []) [I (↑k : Int), AV.sl (ints l) l.length r] (H.mk [] [] []) = some (AV.sl (bools (tabB k l)) ((2 : Nat) ^ k) Room.no, H.mk [] [] []) ∧ LoopS (Env.mk Tryd.prog (Sof [c21.to, c73.to]) (Pof (P := Tryd.prog) []) H.nil.base (300 : Nat)) (loopAt Tryd.f24 (0 : Nat)) (48 : Nat) [(0 : Nat), (1 : Nat), (5 : Nat), (16 : Nat), (17 : Nat), (18 : Nat)] [I (↑k : Int), AV.sl (ints l) l.length r, AV.sl (bools (tabB k l)) ((2 : Nat) ^ k) Room.no, AV.sl (ints l) l.length r, I (↑l.length : Int), I 0] (H.mk [] [] []) [Out.mk Unit AX.ret [(4 : Nat)] (fun x => ¬∀ (j : Nat), j < l.length → okj k l j) (fun x => [AV.bool false]) (fun x => H.nil) fun y => [], Out.mk Unit (AX.exit (0 : Nat)) [] (fun x => ∀ (j : Nat), j < l.length → okj k l j) (fun x => []) (fun x => H.nil) fun y => []] ∧ (∀ (y : Unit), (¬∀ (j : Nat), j < l.length → okj k l j) → ∀ (u : Nat → AV), (AV.bool false, H.mk [] [] []) = (AV.bool (famB (↑k : Int) l), H.mk [] [] [])) ∧ (∀ (y : Unit), (∀ (j : Nat), j < l.length → (j = (0 : Nat) ∨ ia l (j - (1 : Nat)) < ia l j) ∧ ∀ (x : Nat), x < k → List.Mem (↑(andn (ia l j).toNat ((2 : Nat) ^ x)) : Int) l) → ∀ (u : Nat → AV), (AV.bool true, H.mk [] [] []) = (AV.bool (famB (↑k : Int) l), H.mk [] [] [])) ∧ True) (by kernel_rfl) ?_
    refine ⟨acall_b (acall_hit (c := c21.to) (k, l, r) _ rfl ⟨h0, h1⟩) hg, ?_⟩
    refine ⟨acall_hit (c := c73.to) (k, l, r) _ rfl p73, ?_⟩
    refine ⟨hlp, ?_⟩
    refine And.intro ?_ ?_
    · skip
      intro y
      intro w1
      intro u
      first | (rw [hT (by assumption)]) | (rw [hF (by assumption)])
    · skip
      refine And.intro ?_ ?_
      · skip
        intro y
        intro w1
        intro u
        first | (rw [hT (by assumption)]) | (rw [hF (by assumption)])
      · skip
        trivial
noncomputable def c24 : PCtr Tryd.prog := sctr ok24 (X := Int × List Int × Room) (fun x => [I x.1, ls x.2.1 x.2.2]) (fun x => lim x.2.1.length ∧ rok x.2.1 x.2.2) (fun x => .bool (famB x.1 x.2.1))
  (by rintro ⟨a, b, c⟩ ⟨a', b', c'⟩ e _ _; simp at e; simp only [e.1, e.2.1]) (fun x => by simp [AV.bnds, AV.bnd, AV.wk, rm_wk_bnd]) (fun _ => rfl) (fun x hx => ⟨_, _, _, .pure c21 (.pure c73 .nil), r24 x.1 x.2.1 x.2.2.wk hx.1 (by simpa using hx.2)⟩)
end Go.Proofs.Evd

