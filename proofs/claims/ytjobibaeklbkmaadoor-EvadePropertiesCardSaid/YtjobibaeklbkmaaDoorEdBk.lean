/- Layer 8: Property by the reference. -/
import Derived.Test.YtjobibaeklbkmaaDoorEdBh
import Derived.Test.YtjobibaeklbkmaaDoorEdK
import Derived.KernelRfl
set_option linter.unusedSimpArgs false
set_option linter.unusedVariables false
set_option linter.unnecessarySimpa false
set_option maxHeartbeats 4000000
set_option maxRecDepth 100000
namespace Go.Proofs.Evd
open Go Go.VM
open Go.Proofs.Sur (W w_wrap w_nat w_inj w_eq0 w_and w_or w_andn w_shl w_shr neg_nat sub_nat tz tz_ok cl bits_cons bits_0 bits_len andn andn_bit andn_le i_wrap i_and i_or i_andn i_shl i_shr bit_01)

abbrev pX (m : Nat) (F : W) (g x t : Nat) : Prop := ∀ y, y < t → hs F (exg m x y g) = true
abbrev pG (m : Nat) (F : W) (g t : Nat) : Prop := ∀ x, x < t → pX m F g x x
abbrev pF (m : Nat) (F : W) (t : Nat) : Prop := ∀ i, i < t → pG m F (ia (lst F) i).toNat m
theorem pF_ex {m : Nat} (hm : 2 ≤ m ∧ m ≤ 4) {F : W} : pF m F (lst F).length ↔ Ex m F := by
  constructor
  · rintro h x y ⟨_, h1, h2⟩ g hg
    obtain ⟨i, q1, q2⟩ := mem_ia (mem_lst.2 hg)
    have := h i q1 x h1 y h2
    rwa [q2, Int.toNat_natCast] at this
  · intro h i hi x hx y hy
    obtain ⟨s, e, h1, _⟩ := ia_lst hi
    rw [e, Int.toNat_natCast]
    exact h x y ⟨hm, hx, hy⟩ s h1
abbrev tF (m : Nat) (F : W) : AV := tA (nP m) (lst F)
abbrev lF (F : W) (r : Room) : AV := ls (lst F) r
abbrev o52c (m : Nat) (F : W) (r : Room) (i g x : Nat) : List Out :=
  [.mk Unit .ret [4] (fun _ => ¬ pX m F g x x) (fun _ => [.bool false]) (fun _ => .nil) (fun _ => []),
   .mk Unit (.exit 4) [0, 5, 7, 14, 15, 16, 20, 21] (fun _ => pX m F g x x) (fun _ => [I m, tF m F, I g, lF F r, I (lst F).length, I i, I m, I x]) (fun _ => .nil) (fun _ => [])]
theorem simp52c : allSimpleM none1 (loopAt Tryd.f52 2) = true := by kernel_rfl
theorem simp52b : allSimpleM none1 (loopAt Tryd.f52 1) = true := by kernel_rfl
theorem simp52 : allSimpleM none1 (loopAt Tryd.f52 0) = true := by kernel_rfl
theorem rest52 : Rests (En6 [c50.to, c73.to, c98.to]) none1 := rests mixed (.pure _ (.pure _ (.pure _ .nil)))
theorem lp52c (m : Nat) (F : W) (r : Room) (i g x : Nat) (hm : 2 ≤ m ∧ m ≤ 4) (hg : g < 2 ^ nP m) (hx : x < m) :
    LoopS (En6 [c50.to, c73.to, c98.to]) (loopAt Tryd.f52 2) 40 [0, 5, 7, 8, 14, 15, 16, 20, 21, 24, 25] [I m, tF m F, I g, I x, lF F r, I (lst F).length, I i, I m, I x, I x, I 0] .nil (o52c m F r i g x) := by
  refine loop_s rest52 simp52c none (by intro _ h; cases h) (fun y vs h => h = .nil ∧ vs = [I m, tF m F, I g, I x, lF F r, I (lst F).length, I i, I m, I x, I x, I y] ∧ pX m F g x y) x ⟨rfl, rfl, fun x hx => absurd hx (Nat.not_lt_zero _)⟩ (by intro _ h; cases h) ?_
  rintro y vs h hk ⟨rfl, rfl, hI⟩
  by_cases hz : (y : Int) < x
  · have hz' : y < x := by omega
    have h2 : n2 m x y := ⟨hm, hx, hz'⟩
    have h64 := p64 (nP_6 hm.2)
    have p98 : n2 m x y ∧ g < 64 := ⟨h2, by omega⟩
    have hlt := exg_rg h2 hg
    have hgt := tab_get (n := nP m) (l := lst F) hlt
    have hlt2 : exg m x y g < (tabB (nP m) (lst F)).length := by rw [tab_len]; exact hlt
    have ev0 : IntKind.i64.wrap ((y : Int) + 1) = ((y + 1 : Nat) : Int) := by rw [wr _ (by omega) (by omega)]; omega
    have hT : (tabB (nP m) (lst F)).getD (exg m x y g) b0 = true → pX m F g x (y + 1) := fun h z hz => by
      by_cases e : z = y
      · subst e; rw [hgt] at h; exact mem_lst.1 (of_decide_eq_true h)
      · exact hI z (by omega)
    have hF : (tabB (nP m) (lst F)).getD (exg m x y g) b0 = false → ¬ pX m F g x x := fun h q => by
      have := q y hz'
      rw [hgt] at h; exact of_decide_eq_false h (mem_lst.2 this)
    refine ⟨[Ans.o (Orc.b true), Ans.o (Orc.val 33 (I (↑(exg m x y g) : Int)) (H.mk [] [] [])), Ans.o (Orc.val 34 (AV.cptr (bools (List.drop (exg m x y g) (tabB (nP m) (lst F))))) H.nil), Ans.vfork (35 : Nat) ((tabB (nP m) (lst F)).getD (exg m x y g) b0) H.nil [Ans.o (Orc.val 37 (I (↑(y + (1 : Nat)) : Int)) H.nil)] []], fun u => of_eq ((↑y : Int) < (↑x : Int) ∧ aCall (Sof [c50.to, c73.to, c98.to]) (AV.fn (Fn.func (98 : Nat)) [] []) [I (↑m : Int), I (↑g : Int), I (↑x : Int), I (↑y : Int)] (H.mk [] [] []) = some (I (↑(exg m x y g) : Int), H.mk [] [] []) ∧ aIndexAddr Tryd.prog (84 : Nat) (AV.sl (bools (tabB (nP m) (lst F))) ((2 : Nat) ^ nP m) Room.no) (I (↑(exg m x y g) : Int)) = some (AV.cptr (bools (List.drop (exg m x y g) (tabB (nP m) (lst F))))) ∧ aLoad Tryd.prog (4 : Nat) (bools (List.drop (exg m x y g) (tabB (nP m) (lst F)))) = some (AV.bool ((tabB (nP m) (lst F)).getD (exg m x y g) b0)) ∧ ((tabB (nP m) (lst F)).getD (exg m x y g) b0 = true → aBin Tryd.prog BinOp.add (3 : Nat) (I (↑y : Int)) (I 1) = some (I (↑(y + (1 : Nat)) : Int)) ∧ (40 : Nat) = (40 : Nat) ∧ y < x ∧ Keep (H.mk [] [] [] = H.mk [] [] [] ∧ [I (↑m : Int), AV.sl (bools (tabB (nP m) (lst F))) ((2 : Nat) ^ nP m) Room.no, I (↑g : Int), I (↑x : Int), AV.sl (ints (lst F)) (lst F).length r, I (↑(lst F).length : Int), I (↑i : Int), I (↑m : Int), I (↑x : Int), I (↑x : Int), I (↑(y + (1 : Nat)) : Int)] = [I (↑m : Int), AV.sl (bools (tabB (nP m) (lst F))) ((2 : Nat) ^ nP m) Room.no, I (↑g : Int), I (↑x : Int), AV.sl (ints (lst F)) (lst F).length r, I (↑(lst F).length : Int), I (↑i : Int), I (↑m : Int), I (↑x : Int), I (↑x : Int), I (↑(y + (1 : Nat)) : Int)] ∧ pX m F g x (y + (1 : Nat)))) ∧ ((tabB (nP m) (lst F)).getD (exg m x y g) b0 = false → (40 : Nat) = (40 : Nat) ∧ hits [Out.mk Unit AX.ret [(4 : Nat)] (fun x_1 => ¬pX m F g x x) (fun x => [AV.bool false]) (fun x => H.nil) fun x => [], Out.mk Unit (AX.exit (4 : Nat)) [(0 : Nat), (5 : Nat), (7 : Nat), (14 : Nat), (15 : Nat), (16 : Nat), (20 : Nat), (21 : Nat)] (fun x_1 => pX m F g x x) (fun x_1 => [I (↑m : Int), tF m F, I (↑g : Int), lF F r, I (↑(lst F).length : Int), I (↑i : Int), I (↑m : Int), I (↑x : Int)]) (fun x => H.nil) fun x => []] AX.ret [I (↑m : Int), u (1 : Nat), u (2 : Nat), u (3 : Nat), AV.bool false, AV.sl (bools (tabB (nP m) (lst F))) ((2 : Nat) ^ nP m) Room.no, u (6 : Nat), I (↑g : Int), I (↑x : Int), I (↑y : Int), u (10 : Nat), u (11 : Nat), u (12 : Nat), u (13 : Nat), AV.sl (ints (lst F)) (lst F).length r, I (↑(lst F).length : Int), I (↑i : Int), u (17 : Nat), u (18 : Nat), u (19 : Nat), I (↑m : Int), I (↑x : Int), u (22 : Nat), u (23 : Nat), I (↑x : Int), I (↑y : Int), AV.bool true, I (↑y : Int), AV.sl (bools (tabB (nP m) (lst F))) ((2 : Nat) ^ nP m) Room.no, I (↑m : Int), I (↑g : Int), I (↑x : Int), I (↑y : Int), I (↑(exg m x y g) : Int), AV.cptr (bools (List.drop (exg m x y g) (tabB (nP m) (lst F)))), AV.bool false, AV.bool true, u (37 : Nat), u (38 : Nat), u (39 : Nat)] (H.mk [] [] []))) (by kernel_rfl) ?_⟩
    refine ⟨by first | with_reducible assumption | omega | assumption, ?_⟩
    refine ⟨acall_hit (c := c98.to) (m, g, x, y) _ rfl p98, ?_⟩
    refine ⟨ix_bools (by kernel_rfl) hlt no_ne, ?_⟩
    refine ⟨by first | exact ld_bools (by kernel_rfl) (by kernel_rfl) (by omega) | exact ldm_bools (by kernel_rfl) (by kernel_rfl) (by first | omega | (simp; omega)), ?_⟩
    refine And.intro ?_ ?_
    · skip
      intro w0
      refine ⟨told_add (by with_reducible assumption), ?_⟩
      refine ⟨by first | with_reducible assumption | omega | assumption, ?_⟩
      refine ⟨by first | with_reducible assumption | omega | assumption, ?_⟩
      exact ⟨rfl, rfl, hT w0⟩
    · skip
      intro w0
      refine ⟨by first | with_reducible assumption | omega | assumption, ?_⟩
      exact .inl ⟨(), hF w0, rfl, rfl, rfl⟩
  · have hz : (x : Int) ≤ y := by omega
    have hk' : y = x := by omega
    subst hk'
    refine ⟨[Ans.o (Orc.b false)], fun u => of_eq ((↑y : Int) ≤ (↑y : Int) ∧ (40 : Nat) = (40 : Nat) ∧ hits [Out.mk Unit AX.ret [(4 : Nat)] (fun x => ¬pX m F g y y) (fun x => [AV.bool false]) (fun x => H.nil) fun x => [], Out.mk Unit (AX.exit (4 : Nat)) [(0 : Nat), (5 : Nat), (7 : Nat), (14 : Nat), (15 : Nat), (16 : Nat), (20 : Nat), (21 : Nat)] (fun x => pX m F g y y) (fun x => [I (↑m : Int), tF m F, I (↑g : Int), lF F r, I (↑(lst F).length : Int), I (↑i : Int), I (↑m : Int), I (↑y : Int)]) (fun x => H.nil) fun x => []] (AX.exit (4 : Nat)) [I (↑m : Int), u (1 : Nat), u (2 : Nat), u (3 : Nat), u (4 : Nat), AV.sl (bools (tabB (nP m) (lst F))) ((2 : Nat) ^ nP m) Room.no, u (6 : Nat), I (↑g : Int), I (↑y : Int), u (9 : Nat), u (10 : Nat), u (11 : Nat), u (12 : Nat), u (13 : Nat), AV.sl (ints (lst F)) (lst F).length r, I (↑(lst F).length : Int), I (↑i : Int), u (17 : Nat), u (18 : Nat), u (19 : Nat), I (↑m : Int), I (↑y : Int), u (22 : Nat), u (23 : Nat), I (↑y : Int), I (↑y : Int), AV.bool false, u (27 : Nat), u (28 : Nat), u (29 : Nat), u (30 : Nat), u (31 : Nat), u (32 : Nat), u (33 : Nat), u (34 : Nat), u (35 : Nat), u (36 : Nat), u (37 : Nat), u (38 : Nat), u (39 : Nat)] (H.mk [] [] [])) (by kernel_rfl) ?_⟩
    refine ⟨by first | with_reducible assumption | omega | assumption, ?_⟩
    refine ⟨by first | with_reducible assumption | omega | assumption, ?_⟩
    exact .inr (.inl ⟨(), hI, rfl, rfl, rfl⟩)
abbrev o52b (m : Nat) (F : W) (r : Room) (i g : Nat) : List Out :=
  [.mk Unit .ret [4] (fun _ => ¬ pG m F g m) (fun _ => [.bool false]) (fun _ => .nil) (fun _ => []),
   .mk Unit (.exit 2) [0, 5, 14, 15, 16] (fun _ => pG m F g m) (fun _ => [I m, tF m F, lF F r, I (lst F).length, I i]) (fun _ => .nil) (fun _ => [])]
theorem lp52b (m : Nat) (F : W) (r : Room) (i g : Nat) (hm : 2 ≤ m ∧ m ≤ 4) (hg : g < 2 ^ nP m) :
    LoopS (En6 [c50.to, c73.to, c98.to]) (loopAt Tryd.f52 1) 40 [0, 5, 7, 14, 15, 16, 20, 21] [I m, tF m F, I g, lF F r, I (lst F).length, I i, I m, I 0] .nil (o52b m F r i g) := by
  refine loop_s rest52 simp52b none (by intro _ h; cases h) (fun x vs h => h = .nil ∧ vs = [I m, tF m F, I g, lF F r, I (lst F).length, I i, I m, I x] ∧ pG m F g x) m ⟨rfl, rfl, fun x hx => absurd hx (Nat.not_lt_zero _)⟩ (by intro _ h; cases h) ?_
  rintro x vs h hk ⟨rfl, rfl, hI⟩
  by_cases hz : (x : Int) < m
  · have hz' : x < m := by omega
    have hin := lp52c m F r i g x hm hg hz'
    have ev0 : IntKind.i64.wrap ((x : Int) + 1) = ((x + 1 : Nat) : Int) := by rw [wr _ (by omega) (by omega)]; omega
    have hstep : pX m F g x x → pG m F g (x + 1) := fun h z hz => by
      by_cases e : z = x
      · subst e; exact h
      · exact hI z (by omega)
    refine ⟨[Ans.o (Orc.b true), Ans.loop [(0 : Nat), (5 : Nat), (7 : Nat), (8 : Nat), (14 : Nat), (15 : Nat), (16 : Nat), (20 : Nat), (21 : Nat), (24 : Nat), (25 : Nat)] [Out.mk Unit AX.ret [(4 : Nat)] (fun x_1 => ¬pX m F g x x) (fun x => [AV.bool false]) (fun x => H.nil) fun y => [], Out.mk Unit (AX.exit (4 : Nat)) [(0 : Nat), (5 : Nat), (7 : Nat), (14 : Nat), (15 : Nat), (16 : Nat), (20 : Nat), (21 : Nat)] (fun x_1 => pX m F g x x) (fun x_1 => [I (↑m : Int), tF m F, I (↑g : Int), lF F r, I (↑(lst F).length : Int), I (↑i : Int), I (↑m : Int), I (↑x : Int)]) (fun x => H.nil) fun y => [Ans.o (Orc.val 38 (I (↑(x + (1 : Nat)) : Int)) H.nil)]]], fun u => of_eq ((↑x : Int) < (↑m : Int) ∧ LoopS (Env.mk Tryd.prog (Sof [c50.to, c73.to, c98.to]) (Pof (P := Tryd.prog) []) H.nil.base (300 : Nat)) (loopAt Tryd.f52 (2 : Nat)) (40 : Nat) [(0 : Nat), (5 : Nat), (7 : Nat), (8 : Nat), (14 : Nat), (15 : Nat), (16 : Nat), (20 : Nat), (21 : Nat), (24 : Nat), (25 : Nat)] [I (↑m : Int), AV.sl (bools (tabB (nP m) (lst F))) ((2 : Nat) ^ nP m) Room.no, I (↑g : Int), I (↑x : Int), AV.sl (ints (lst F)) (lst F).length r, I (↑(lst F).length : Int), I (↑i : Int), I (↑m : Int), I (↑x : Int), I (↑x : Int), I 0] (H.mk [] [] []) [Out.mk Unit AX.ret [(4 : Nat)] (fun x_1 => ¬pX m F g x x) (fun x => [AV.bool false]) (fun x => H.nil) fun y => [], Out.mk Unit (AX.exit (4 : Nat)) [(0 : Nat), (5 : Nat), (7 : Nat), (14 : Nat), (15 : Nat), (16 : Nat), (20 : Nat), (21 : Nat)] (fun x_1 => pX m F g x x) (fun x_1 => [I (↑m : Int), tF m F, I (↑g : Int), lF F r, I (↑(lst F).length : Int), I (↑i : Int), I (↑m : Int), I (↑x : Int)]) (fun x => H.nil) fun y => [Ans.o (Orc.val 38 (I (↑(x + (1 : Nat)) : Int)) H.nil)]] ∧ (∀ (y : Unit), ¬pX m F g x x → ∀ (u : Nat → AV), (40 : Nat) = (40 : Nat) ∧ hits [Out.mk Unit AX.ret [(4 : Nat)] (fun x => ¬pG m F g m) (fun x => [AV.bool false]) (fun x => H.nil) fun x => [], Out.mk Unit (AX.exit (2 : Nat)) [(0 : Nat), (5 : Nat), (14 : Nat), (15 : Nat), (16 : Nat)] (fun x => pG m F g m) (fun x => [I (↑m : Int), tF m F, lF F r, I (↑(lst F).length : Int), I (↑i : Int)]) (fun x => H.nil) fun x => []] AX.ret [u (0 : Nat), u (1 : Nat), u (2 : Nat), u (3 : Nat), AV.bool false, u (5 : Nat), u (6 : Nat), u (7 : Nat), u (8 : Nat), u (9 : Nat), u (10 : Nat), u (11 : Nat), u (12 : Nat), u (13 : Nat), u (14 : Nat), u (15 : Nat), u (16 : Nat), u (17 : Nat), u (18 : Nat), u (19 : Nat), u (20 : Nat), u (21 : Nat), u (22 : Nat), u (23 : Nat), u (24 : Nat), u (25 : Nat), u (26 : Nat), u (27 : Nat), u (28 : Nat), u (29 : Nat), u (30 : Nat), u (31 : Nat), u (32 : Nat), u (33 : Nat), u (34 : Nat), u (35 : Nat), u (36 : Nat), u (37 : Nat), u (38 : Nat), u (39 : Nat)] (H.mk [] [] [])) ∧ (∀ (y : Unit), (∀ (y : Nat), y < x → hs F (exg m x y g) = true) → ∀ (u : Nat → AV), aBin Tryd.prog BinOp.add (3 : Nat) (I (↑x : Int)) (I 1) = some (I (↑(x + (1 : Nat)) : Int)) ∧ (40 : Nat) = (40 : Nat) ∧ x < m ∧ Keep (H.mk [] [] [] = H.mk [] [] [] ∧ [I (↑m : Int), AV.sl (bools (tabB (nP m) (lst F))) ((2 : Nat) ^ nP m) Room.no, I (↑g : Int), AV.sl (ints (lst F)) (lst F).length r, I (↑(lst F).length : Int), I (↑i : Int), I (↑m : Int), I (↑(x + (1 : Nat)) : Int)] = [I (↑m : Int), AV.sl (bools (tabB (nP m) (lst F))) ((2 : Nat) ^ nP m) Room.no, I (↑g : Int), AV.sl (ints (lst F)) (lst F).length r, I (↑(lst F).length : Int), I (↑i : Int), I (↑m : Int), I (↑(x + (1 : Nat)) : Int)] ∧ pG m F g (x + (1 : Nat)))) ∧ True) (by kernel_rfl) ?_⟩
    refine ⟨by first | with_reducible assumption | omega | assumption, ?_⟩
    refine ⟨hin, ?_⟩
    refine And.intro ?_ ?_
    · skip
      intro y
      intro w1
      intro u
      refine ⟨by first | with_reducible assumption | omega | assumption, ?_⟩
      exact .inl ⟨(), fun h => absurd (h x hz') (by assumption), rfl, rfl, rfl⟩
    · skip
      refine And.intro ?_ ?_
      · skip
        intro y
        intro w1
        intro u
        refine ⟨told_add (by with_reducible assumption), ?_⟩
        refine ⟨by first | with_reducible assumption | omega | assumption, ?_⟩
        refine ⟨by first | with_reducible assumption | omega | assumption, ?_⟩
        exact ⟨rfl, rfl, hstep (by assumption)⟩
      · skip
        trivial
  · have hz : (m : Int) ≤ x := by omega
    have hk' : x = m := by omega
    subst hk'
    refine ⟨[Ans.o (Orc.b false)], fun u => of_eq ((↑x : Int) ≤ (↑x : Int) ∧ (40 : Nat) = (40 : Nat) ∧ hits [Out.mk Unit AX.ret [(4 : Nat)] (fun x_1 => ¬pG x F g x) (fun x => [AV.bool false]) (fun x => H.nil) fun x => [], Out.mk Unit (AX.exit (2 : Nat)) [(0 : Nat), (5 : Nat), (14 : Nat), (15 : Nat), (16 : Nat)] (fun x_1 => pG x F g x) (fun x_1 => [I (↑x : Int), tF x F, lF F r, I (↑(lst F).length : Int), I (↑i : Int)]) (fun x => H.nil) fun x => []] (AX.exit (2 : Nat)) [I (↑x : Int), u (1 : Nat), u (2 : Nat), u (3 : Nat), u (4 : Nat), AV.sl (bools (tabB (nP x) (lst F))) ((2 : Nat) ^ nP x) Room.no, u (6 : Nat), I (↑g : Int), u (8 : Nat), u (9 : Nat), u (10 : Nat), u (11 : Nat), u (12 : Nat), u (13 : Nat), AV.sl (ints (lst F)) (lst F).length r, I (↑(lst F).length : Int), I (↑i : Int), u (17 : Nat), u (18 : Nat), u (19 : Nat), I (↑x : Int), I (↑x : Int), AV.bool false, u (23 : Nat), u (24 : Nat), u (25 : Nat), u (26 : Nat), u (27 : Nat), u (28 : Nat), u (29 : Nat), u (30 : Nat), u (31 : Nat), u (32 : Nat), u (33 : Nat), u (34 : Nat), u (35 : Nat), u (36 : Nat), u (37 : Nat), u (38 : Nat), u (39 : Nat)] (H.mk [] [] [])) (by kernel_rfl) ?_⟩
    refine ⟨by first | with_reducible assumption | omega | assumption, ?_⟩
    refine ⟨by first | with_reducible assumption | omega | assumption, ?_⟩
    exact .inr (.inl ⟨(), hI, rfl, rfl, rfl⟩)
abbrev o52 (m : Nat) (F : W) : List Out :=
  [.mk Unit .ret [4] (fun _ => ¬ pF m F (lst F).length) (fun _ => [.bool false]) (fun _ => .nil) (fun _ => []),
   .mk Unit (.exit 0) [] (fun _ => pF m F (lst F).length) (fun _ => []) (fun _ => .nil) (fun _ => [])]
theorem lp52 (m : Nat) (F : W) (r : Room) (hm : 2 ≤ m ∧ m ≤ 4) (hr : Rg (nP m) F) (h1 : rok (lst F) r) :
    LoopS (En6 [c50.to, c73.to, c98.to]) (loopAt Tryd.f52 0) 40 [0, 5, 14, 15, 16] [I m, tF m F, lF F r, I (lst F).length, I 0] .nil (o52 m F) := by
  refine loop_s rest52 simp52 none (by intro _ h; cases h) (fun i vs h => h = .nil ∧ vs = [I m, tF m F, lF F r, I (lst F).length, I i] ∧ pF m F i) (lst F).length ⟨rfl, rfl, fun x hx => absurd hx (Nat.not_lt_zero _)⟩ (by intro _ h; cases h) ?_
  rintro i vs h hk ⟨rfl, rfl, hI⟩
  by_cases hz : (i : Int) < (lst F).length
  · have hz' : i < (lst F).length := by omega
    have hl := lst_len F
    have hro := rok_idx h1 hz'
    obtain ⟨g, hg, hgs, _⟩ := ia_lst hz'
    have hin := lp52b m F r i g hm (hr g hgs)
    have ev0 : IntKind.i64.wrap ((i : Int) + 1) = ((i + 1 : Nat) : Int) := by rw [wr _ (by omega) (by omega)]; omega
    have hstep : pG m F g m → pF m F (i + 1) := fun h z hz => by
      by_cases e : z = i
      · subst e; rw [hg, Int.toNat_natCast]; exact h
      · exact hI z (by omega)
    rw [← hg] at hin
    have hno : ¬ pG m F g m → ¬ pF m F (lst F).length := fun h q => h (by have := q i hz'; rwa [hg, Int.toNat_natCast] at this)
    refine ⟨[Ans.o (Orc.b true), Ans.o (Orc.val 18 (AV.cptr (ints (List.drop i (lst F)))) H.nil), Ans.o (Orc.val 19 (I ((lst F).getD i i0)) H.nil), Ans.loop [(0 : Nat), (5 : Nat), (7 : Nat), (14 : Nat), (15 : Nat), (16 : Nat), (20 : Nat), (21 : Nat)] [Out.mk Unit AX.ret [(4 : Nat)] (fun x => ¬pG m F g m) (fun x => [AV.bool false]) (fun x => H.nil) fun y => [], Out.mk Unit (AX.exit (2 : Nat)) [(0 : Nat), (5 : Nat), (14 : Nat), (15 : Nat), (16 : Nat)] (fun x => pG m F g m) (fun x => [I (↑m : Int), tF m F, lF F r, I (↑(lst F).length : Int), I (↑i : Int)]) (fun x => H.nil) fun y => [Ans.o (Orc.val 39 (I (↑(i + (1 : Nat)) : Int)) H.nil)]]], fun u => of_eq ((↑i : Int) < (↑(lst F).length : Int) ∧ aIndexAddr Tryd.prog (22 : Nat) (AV.sl (ints (lst F)) (lst F).length r) (I (↑i : Int)) = some (AV.cptr (ints (List.drop i (lst F)))) ∧ aLoad Tryd.prog (3 : Nat) (ints (List.drop i (lst F))) = some (I ((lst F).getD i i0)) ∧ LoopS (Env.mk Tryd.prog (Sof [c50.to, c73.to, c98.to]) (Pof (P := Tryd.prog) []) H.nil.base (300 : Nat)) (loopAt Tryd.f52 (1 : Nat)) (40 : Nat) [(0 : Nat), (5 : Nat), (7 : Nat), (14 : Nat), (15 : Nat), (16 : Nat), (20 : Nat), (21 : Nat)] [I (↑m : Int), AV.sl (bools (tabB (nP m) (lst F))) ((2 : Nat) ^ nP m) Room.no, I ((lst F).getD i i0), AV.sl (ints (lst F)) (lst F).length r, I (↑(lst F).length : Int), I (↑i : Int), I (↑m : Int), I 0] (H.mk [] [] []) [Out.mk Unit AX.ret [(4 : Nat)] (fun x => ¬pG m F g m) (fun x => [AV.bool false]) (fun x => H.nil) fun y => [], Out.mk Unit (AX.exit (2 : Nat)) [(0 : Nat), (5 : Nat), (14 : Nat), (15 : Nat), (16 : Nat)] (fun x => pG m F g m) (fun x => [I (↑m : Int), tF m F, lF F r, I (↑(lst F).length : Int), I (↑i : Int)]) (fun x => H.nil) fun y => [Ans.o (Orc.val 39 (I (↑(i + (1 : Nat)) : Int)) H.nil)]] ∧ (∀ (y : Unit), ¬pG m F g m → ∀ (u : Nat → AV), (40 : Nat) = (40 : Nat) ∧ hits [Out.mk Unit AX.ret [(4 : Nat)] (fun x => ¬pF m F (lst F).length) (fun x => [AV.bool false]) (fun x => H.nil) fun x => [], Out.mk Unit (AX.exit (0 : Nat)) [] (fun x => pF m F (lst F).length) (fun x => []) (fun x => H.nil) fun x => []] AX.ret [u (0 : Nat), u (1 : Nat), u (2 : Nat), u (3 : Nat), AV.bool false, u (5 : Nat), u (6 : Nat), u (7 : Nat), u (8 : Nat), u (9 : Nat), u (10 : Nat), u (11 : Nat), u (12 : Nat), u (13 : Nat), u (14 : Nat), u (15 : Nat), u (16 : Nat), u (17 : Nat), u (18 : Nat), u (19 : Nat), u (20 : Nat), u (21 : Nat), u (22 : Nat), u (23 : Nat), u (24 : Nat), u (25 : Nat), u (26 : Nat), u (27 : Nat), u (28 : Nat), u (29 : Nat), u (30 : Nat), u (31 : Nat), u (32 : Nat), u (33 : Nat), u (34 : Nat), u (35 : Nat), u (36 : Nat), u (37 : Nat), u (38 : Nat), u (39 : Nat)] (H.mk [] [] [])) ∧ (∀ (y : Unit), (∀ (x : Nat), x < m → ∀ (y : Nat), y < x → hs F (exg m x y g) = true) → ∀ (u : Nat → AV), aBin Tryd.prog BinOp.add (3 : Nat) (I (↑i : Int)) (I 1) = some (I (↑(i + (1 : Nat)) : Int)) ∧ (40 : Nat) = (40 : Nat) ∧ i < (lst F).length ∧ Keep (H.mk [] [] [] = H.mk [] [] [] ∧ [I (↑m : Int), AV.sl (bools (tabB (nP m) (lst F))) ((2 : Nat) ^ nP m) Room.no, AV.sl (ints (lst F)) (lst F).length r, I (↑(lst F).length : Int), I (↑(i + (1 : Nat)) : Int)] = [I (↑m : Int), AV.sl (bools (tabB (nP m) (lst F))) ((2 : Nat) ^ nP m) Room.no, AV.sl (ints (lst F)) (lst F).length r, I (↑(lst F).length : Int), I (↑(i + (1 : Nat)) : Int)] ∧ pF m F (i + (1 : Nat)))) ∧ True) (by kernel_rfl) ?_⟩
    refine ⟨by first | with_reducible assumption | omega | assumption, ?_⟩
    refine ⟨ix_ints (by kernel_rfl) hz' hro, ?_⟩
    refine ⟨by first | exact ld_ints (by kernel_rfl) (by kernel_rfl) (by omega) | exact ldm_ints (by kernel_rfl) (by kernel_rfl) (by first | omega | (simp; omega)), ?_⟩
    refine ⟨hin, ?_⟩
    refine And.intro ?_ ?_
    · skip
      intro y
      intro w1
      intro u
      refine ⟨by first | with_reducible assumption | omega | assumption, ?_⟩
      exact .inl ⟨(), hno (by assumption), rfl, rfl, rfl⟩
    · skip
      refine And.intro ?_ ?_
      · skip
        intro y
        intro w1
        intro u
        refine ⟨told_add (by with_reducible assumption), ?_⟩
        refine ⟨by first | with_reducible assumption | omega | assumption, ?_⟩
        refine ⟨by first | with_reducible assumption | omega | assumption, ?_⟩
        exact ⟨rfl, rfl, hstep (by assumption)⟩
      · skip
        trivial
  · have hz : ((lst F).length : Int) ≤ i := by omega
    have hk' : i = (lst F).length := by omega
    subst hk'
    refine ⟨[Ans.o (Orc.b false)], fun u => of_eq ((↑(lst F).length : Int) ≤ (↑(lst F).length : Int) ∧ (40 : Nat) = (40 : Nat) ∧ hits [Out.mk Unit AX.ret [(4 : Nat)] (fun x => ¬pF m F (lst F).length) (fun x => [AV.bool false]) (fun x => H.nil) fun x => [], Out.mk Unit (AX.exit (0 : Nat)) [] (fun x => pF m F (lst F).length) (fun x => []) (fun x => H.nil) fun x => []] (AX.exit (0 : Nat)) [I (↑m : Int), u (1 : Nat), u (2 : Nat), u (3 : Nat), u (4 : Nat), AV.sl (bools (tabB (nP m) (lst F))) ((2 : Nat) ^ nP m) Room.no, u (6 : Nat), u (7 : Nat), u (8 : Nat), u (9 : Nat), u (10 : Nat), u (11 : Nat), u (12 : Nat), u (13 : Nat), AV.sl (ints (lst F)) (lst F).length r, I (↑(lst F).length : Int), I (↑(lst F).length : Int), AV.bool false, u (18 : Nat), u (19 : Nat), u (20 : Nat), u (21 : Nat), u (22 : Nat), u (23 : Nat), u (24 : Nat), u (25 : Nat), u (26 : Nat), u (27 : Nat), u (28 : Nat), u (29 : Nat), u (30 : Nat), u (31 : Nat), u (32 : Nat), u (33 : Nat), u (34 : Nat), u (35 : Nat), u (36 : Nat), u (37 : Nat), u (38 : Nat), u (39 : Nat)] (H.mk [] [] [])) (by kernel_rfl) ?_⟩
    refine ⟨by first | with_reducible assumption | omega | assumption, ?_⟩
    refine ⟨by first | with_reducible assumption | omega | assumption, ?_⟩
    exact .inr (.inl ⟨(), hI, rfl, rfl, rfl⟩)
@[simp] theorem elts_iff (F G : W) : (elts F = elts G) ↔ F = G := ⟨bits_inj, fun h => h ▸ rfl⟩
open Classical in
noncomputable def exB (m : Nat) (F : W) : Bool := decide (Ex m F)
open Classical in
theorem exB_t {m : Nat} {F : W} (h : Ex m F) : exB m F = true := by unfold exB; exact decide_eq_true h
open Classical in
theorem exB_f {m : Nat} {F : W} (h : ¬ Ex m F) : exB m F = false := by unfold exB; exact decide_eq_false h
theorem ok52 : FokM Tryd.prog none1 52 Tryd.f52 := ⟨mixed, by kernel_rfl, by kernel_rfl, by kernel_rfl, by kernel_rfl⟩
theorem r52 (m : Nat) (F : W) (r : Room) (hp : (2 ≤ m ∧ m ≤ 4) ∧ Fm (nP m : Nat) (lst F) F ∧ rok (lst F) r) : Body ⟨Tryd.prog, Sof (P := Tryd.prog) [c50.to, c73.to, c98.to], Pof (P := Tryd.prog) [], H.nil.base, 300⟩ none1 Tryd.f52 [I m, ls (lst F) r] .nil (.bool (exB m F), .nil) := by
  have hn := nP_6 hp.1.2
  have hrg := hp.2.1.rg
  rw [Int.toNat_natCast] at hrg
  have hoks := lst_oks hrg
  have hl := lp52 m F r hp.1 hrg hp.2.2
  have hlim : lim (lst F).length := by have := lst_len F; simp only [lim]; omega
  have p73 : (nP m ≤ 6 ∧ lim (lst F).length) ∧ rok (lst F) r ∧ oks (nP m) (lst F) := ⟨⟨hn, hlim⟩, hp.2.2, hoks⟩
  have hT : pF m F (lst F).length → exB m F = true := fun h => exB_t ((pF_ex hp.1).1 h)
  have hF : ¬ pF m F (lst F).length → exB m F = false := fun h => exB_f fun q => h ((pF_ex hp.1).2 q)
  refine body_s ([Ans.o (Orc.val 11 (I (↑(nP m) : Int)) (H.mk [] [] [])), Ans.o (Orc.val 13 (AV.sl (bools (tabB (nP m) (lst F))) ((2 : Nat) ^ nP m) Room.no) (H.mk [] [] [])), Ans.loop [(0 : Nat), (5 : Nat), (14 : Nat), (15 : Nat), (16 : Nat)] [Out.mk Unit AX.ret [(4 : Nat)] (fun x => ¬pF m F (lst F).length) (fun x => [AV.bool false]) (fun x => H.nil) fun y => [], Out.mk Unit (AX.exit (0 : Nat)) [] (fun x => pF m F (lst F).length) (fun x => []) (fun x => H.nil) fun y => []]]) (aCall (Sof [c50.to, c73.to, c98.to]) (AV.fn (Fn.func (50 : Nat)) [] []) [I (↑m : Int)] (H.mk [] [] []) = some (I (↑(nP m) : Int), H.mk [] [] []) ∧ aCall (Sof [c50.to, c73.to, c98.to]) (AV.fn (Fn.func (73 : Nat)) [] []) [I (↑(nP m) : Int), AV.sl (ints (lst F)) (lst F).length r] (H.mk [] [] []) = some (AV.sl (bools (tabB (nP m) (lst F))) ((2 : Nat) ^ nP m) Room.no, H.mk [] [] []) ∧ LoopS (Env.mk Tryd.prog (Sof [c50.to, c73.to, c98.to]) (Pof (P := Tryd.prog) []) H.nil.base (300 : Nat)) (loopAt Tryd.f52 (0 : Nat)) (40 : Nat) [(0 : Nat), (5 : Nat), (14 : Nat), (15 : Nat), (16 : Nat)] [I (↑m : Int), AV.sl (bools (tabB (nP m) (lst F))) ((2 : Nat) ^ nP m) Room.no, AV.sl (ints (lst F)) (lst F).length r, I (↑(lst F).length : Int), I 0] (H.mk [] [] []) [Out.mk Unit AX.ret [(4 : Nat)] (fun x => ¬pF m F (lst F).length) (fun x => [AV.bool false]) (fun x => H.nil) fun y => [], Out.mk Unit (AX.exit (0 : Nat)) [] (fun x => pF m F (lst F).length) (fun x => []) (fun x => H.nil) fun y => []] ∧ (∀ (y : Unit), ¬pF m F (lst F).length → ∀ (u : Nat → AV), (AV.bool false, H.mk [] [] []) = (AV.bool (exB m F), H.mk [] [] [])) ∧ (∀ (y : Unit), (∀ (i : Nat), i < (lst F).length → ∀ (x : Nat), x < m → ∀ (y : Nat), y < x → hs F (exg m x y (ia (lst F) i).toNat) = true) → ∀ (u : Nat → AV), (AV.bool true, H.mk [] [] []) = (AV.bool (exB m F), H.mk [] [] [])) ∧ True) (by kernel_rfl) ?_
  refine ⟨acall_hit (c := c50.to) m _ rfl hp.1, ?_⟩
  refine ⟨acall_hit (c := c73.to) (nP m, lst F, r) _ rfl p73, ?_⟩
  refine ⟨hl, ?_⟩
  refine And.intro ?_ ?_
  · skip
    intro y
    intro w1
    intro u
    first | (rw [hT (by assumption)]) | (rw [hF (by assumption)])
  · skip
    refine And.intro ?_ ?_
    · skip
      intro y
      intro w1
      intro u
      first | (rw [hT (by assumption)]) | (rw [hF (by assumption)])
    · skip
      trivial
noncomputable def c52 : PCtr Tryd.prog := sctr ok52 (X := Nat × W × Room) (fun x => [I x.1, ls (lst x.2.1) x.2.2]) (fun x => (2 ≤ x.1 ∧ x.1 ≤ 4) ∧ Fm (nP x.1 : Nat) (lst x.2.1) x.2.1 ∧ rok (lst x.2.1) x.2.2) (fun x => .bool (exB x.1 x.2.1)) (by intro x y e _ _; simp [Int.natCast_inj] at e; simp [e]) (fun x => by simp [AV.bnds, AV.bnd, AV.wk, rm_wk_bnd]) (fun x => by first | rfl | (simp [AV.bnd, rm_wk_bnd]; done)  | (simp [AV.bnd, AV.bnds, rm_wk_bnd]; done) | simp [AV.bnd, AV.bnds, Room.bnd, rm_wk_bnd]) (fun x hx => ⟨_, _, _, .pure c50 (.pure c73 (.pure c98 (.nil))), r52 (x.1) (x.2.1) (x.2.2).wk (by first | exact hx | (simp only [rok_wk]; exact hx) | (simp only [rok_wk, lst_wk]; exact hx) | (simp only [rok_wk, lst_wk, lsn_wk]; exact hx))⟩)
end Go.Proofs.Evd

