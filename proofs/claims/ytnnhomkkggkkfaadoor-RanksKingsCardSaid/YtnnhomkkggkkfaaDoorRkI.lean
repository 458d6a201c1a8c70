/- Layer 2: how many players a set has; kings, by the program and by the reference. -/
import Derived.Test.YtnnhomkkggkkfaaDoorRkH
import Derived.KernelRfl
set_option linter.unusedSimpArgs false
set_option linter.unusedVariables false
set_option linter.unnecessarySimpa false
set_option maxHeartbeats 4000000
set_option maxRecDepth 100000
namespace Go.Proofs.Rnk
open Go Go.VM
open Go.Proofs.Sur (andn andn_bit andn_le i_wrap i_and i_or i_andn i_shl i_shr bit_01)

def kgV (t : List Int) : Nat → Nat
  | 0 => 0
  | j + 1 => if nrE t j = alls t.length then kgV t j ||| 2 ^ j else kgV t j
theorem kgV_lt {t : List Int} : ∀ {j : Nat}, j ≤ 8 → kgV t j < 256
  | 0, _ => by simp [kgV]
  | j + 1, h => by
    have ih := @kgV_lt t j (by omega)
    simp only [kgV]
    split
    · exact Nat.or_lt_two_pow (n := 8) ih (Nat.pow_lt_pow_right (by decide) (by omega))
    · exact ih
abbrev o32 (t : List Int) : List Out := [.mk Unit (.exit 0) [4] (fun _ => True) (fun _ => [I (kgV t t.length : Nat)]) (fun _ => .nil) (fun _ => [])]
theorem simp32 : allSimpleM none1 (loopAt Tryd.f32 0) = true := by kernel_rfl
theorem lp32 (t : List Int) (r : Room) (h : Tn t) (hr : rok t r) :
    LoopS (En6 [c56.to, c69.to, c70.to]) (loopAt Tryd.f32 0) 26 [0, 4, 10, 11] [ls t r, I 0, I t.length, I 0] .nil (o32 t) := by
  have hR : Rests (En6 [c56.to, c69.to, c70.to]) none1 := rests mixed (.pure _ (.pure _ (.pure _ .nil)))
  have h8 := h.s.2
  refine loop_s hR simp32 none (by intro _ h; cases h) (fun j vs h => h = .nil ∧ vs = [ls t r, I (kgV t j : Nat), I t.length, I j]) t.length ⟨rfl, rfl⟩ (by intro _ h; cases h) ?_
  rintro j vs h' hj ⟨rfl, rfl⟩
  by_cases hz : (j : Int) < t.length
  · have hz' : j < t.length := by omega
    have ev0 := wj1 (j := j) (by omega)
    have ev1 := pw_shl (n := j) (by omega)
    have h1 := @kgV_lt t j (by omega)
    have h2 : 2 ^ j < 2 ^ 8 := Nat.pow_lt_pow_right (by decide) (by omega)
    have ev2 := i_or (a := kgV t j) (b := 2 ^ j) (by omega) (by omega)
    have p69 : (Tn t ∧ rok t r) ∧ j < t.length := ⟨⟨h, hr⟩, hz'⟩
    have p70 : t.length ≤ 8 ∧ rok t r := ⟨h8, hr⟩
    by_cases c : nrE t j = alls t.length
    · have hc : ((nrE t j : Nat) : Int) = ((alls t.length : Nat) : Int) := by rw [c]
      have hk : kgV t (j + 1) = kgV t j ||| 2 ^ j := by simp only [kgV]; rw [if_pos c]
      refine ⟨[Ans.o (Orc.b true), Ans.o (Orc.val 16 (I (↑(nrE t j) : Int)) (H.mk [] [] [])), Ans.o (Orc.val 18 (I (↑(alls t.length) : Int)) (H.mk [] [] [])), Ans.o (Orc.b true), Ans.o (Orc.val 22 (I (↑((2 : Nat) ^ j) : Int)) H.nil), Ans.o (Orc.val 23 (I (↑(kgV t j ||| (2 : Nat) ^ j) : Int)) H.nil), Ans.o (Orc.val 24 (I (↑(j + (1 : Nat)) : Int)) H.nil)], fun u => of_eq ((↑j : Int) < (↑t.length : Int) ∧ aCall (Sof [c56.to, c69.to, c70.to]) (AV.fn (Fn.func (69 : Nat)) [] []) [AV.sl (ints t) t.length r, I (↑j : Int)] (H.mk [] [] []) = some (I (↑(nrE t j) : Int), H.mk [] [] []) ∧ aCall (Sof [c56.to, c69.to, c70.to]) (AV.fn (Fn.func (70 : Nat)) [] []) [AV.sl (ints t) t.length r] (H.mk [] [] []) = some (I (↑(alls t.length) : Int), H.mk [] [] []) ∧ (↑(nrE t j) : Int) = (↑(alls t.length) : Int) ∧ aBin Tryd.prog BinOp.shl (3 : Nat) (I 1) (I (↑j : Int)) = some (I (↑((2 : Nat) ^ j) : Int)) ∧ aBin Tryd.prog BinOp.or (3 : Nat) (I (↑(kgV t j) : Int)) (I (↑((2 : Nat) ^ j) : Int)) = some (I (↑(kgV t j ||| (2 : Nat) ^ j) : Int)) ∧ aBin Tryd.prog BinOp.add (3 : Nat) (I (↑j : Int)) (I 1) = some (I (↑(j + (1 : Nat)) : Int)) ∧ (26 : Nat) = (26 : Nat) ∧ j < t.length ∧ Keep (H.mk [] [] [] = H.mk [] [] [] ∧ [AV.sl (ints t) t.length r, I (↑(kgV t j ||| (2 : Nat) ^ j) : Int), I (↑t.length : Int), I (↑(j + (1 : Nat)) : Int)] = [AV.sl (ints t) t.length r, I (↑(kgV t (j + (1 : Nat))) : Int), I (↑t.length : Int), I (↑(j + (1 : Nat)) : Int)])) (by kernel_rfl) ?_⟩
      refine ⟨by first | with_reducible assumption | omega | assumption, ?_⟩
      refine ⟨acall_hit (c := c69.to) (t, r, j) _ rfl p69, ?_⟩
      refine ⟨acall_hit (c := c70.to) (t, r) _ rfl p70, ?_⟩
      refine ⟨by first | with_reducible assumption | omega | assumption, ?_⟩
      refine ⟨by first | exact told_shl (by first | exact Int.natCast_nonneg _ | omega) (by with_reducible assumption) | exact told_shl (by omega) rfl, ?_⟩
      refine ⟨told_or (by with_reducible assumption), ?_⟩
      refine ⟨told_add (by with_reducible assumption), ?_⟩
      refine ⟨by first | with_reducible assumption | omega | assumption, ?_⟩
      refine ⟨by first | with_reducible assumption | omega | assumption, ?_⟩
      (rw [hk]; exact ⟨rfl, rfl⟩)
    · have hc : ((nrE t j : Nat) : Int) ≠ ((alls t.length : Nat) : Int) := fun e => c (by omega)
      have hk : kgV t (j + 1) = kgV t j := by simp only [kgV]; rw [if_neg c]
      refine ⟨[Ans.o (Orc.b true), Ans.o (Orc.val 16 (I (↑(nrE t j) : Int)) (H.mk [] [] [])), Ans.o (Orc.val 18 (I (↑(alls t.length) : Int)) (H.mk [] [] [])), Ans.o (Orc.b false), Ans.o (Orc.val 24 (I (↑(j + (1 : Nat)) : Int)) H.nil)], fun u => of_eq ((↑j : Int) < (↑t.length : Int) ∧ aCall (Sof [c56.to, c69.to, c70.to]) (AV.fn (Fn.func (69 : Nat)) [] []) [AV.sl (ints t) t.length r, I (↑j : Int)] (H.mk [] [] []) = some (I (↑(nrE t j) : Int), H.mk [] [] []) ∧ aCall (Sof [c56.to, c69.to, c70.to]) (AV.fn (Fn.func (70 : Nat)) [] []) [AV.sl (ints t) t.length r] (H.mk [] [] []) = some (I (↑(alls t.length) : Int), H.mk [] [] []) ∧ (↑(nrE t j) : Int) ≠ (↑(alls t.length) : Int) ∧ aBin Tryd.prog BinOp.add (3 : Nat) (I (↑j : Int)) (I 1) = some (I (↑(j + (1 : Nat)) : Int)) ∧ (26 : Nat) = (26 : Nat) ∧ j < t.length ∧ Keep (H.mk [] [] [] = H.mk [] [] [] ∧ [AV.sl (ints t) t.length r, I (↑(kgV t j) : Int), I (↑t.length : Int), I (↑(j + (1 : Nat)) : Int)] = [AV.sl (ints t) t.length r, I (↑(kgV t (j + (1 : Nat))) : Int), I (↑t.length : Int), I (↑(j + (1 : Nat)) : Int)])) (by kernel_rfl) ?_⟩
      refine ⟨by first | with_reducible assumption | omega | assumption, ?_⟩
      refine ⟨acall_hit (c := c69.to) (t, r, j) _ rfl p69, ?_⟩
      refine ⟨acall_hit (c := c70.to) (t, r) _ rfl p70, ?_⟩
      refine ⟨by first | with_reducible assumption | omega | assumption, ?_⟩
      refine ⟨told_add (by with_reducible assumption), ?_⟩
      refine ⟨by first | with_reducible assumption | omega | assumption, ?_⟩
      refine ⟨by first | with_reducible assumption | omega | assumption, ?_⟩
      (rw [hk]; exact ⟨rfl, rfl⟩)
  · have hz : (t.length : Int) ≤ j := by omega
    have e : j = t.length := by omega
    subst e
    refine ⟨[Ans.o (Orc.b false)], fun u => of_eq ((↑t.length : Int) ≤ (↑t.length : Int) ∧ (26 : Nat) = (26 : Nat) ∧ hits [Out.mk Unit (AX.exit (0 : Nat)) [(4 : Nat)] (fun x => True) (fun x => [I (↑(kgV t t.length) : Int)]) (fun x => H.nil) fun x => []] (AX.exit (0 : Nat)) [AV.sl (ints t) t.length r, u (1 : Nat), u (2 : Nat), u (3 : Nat), I (↑(kgV t t.length) : Int), u (5 : Nat), u (6 : Nat), u (7 : Nat), u (8 : Nat), u (9 : Nat), I (↑t.length : Int), I (↑t.length : Int), AV.bool false, u (13 : Nat), u (14 : Nat), u (15 : Nat), u (16 : Nat), u (17 : Nat), u (18 : Nat), u (19 : Nat), u (20 : Nat), u (21 : Nat), u (22 : Nat), u (23 : Nat), u (24 : Nat), u (25 : Nat)] (H.mk [] [] [])) (by kernel_rfl) ?_⟩
    refine ⟨by first | with_reducible assumption | omega | assumption, ?_⟩
    refine ⟨by first | with_reducible assumption | omega | assumption, ?_⟩
    exact .inl ⟨(), trivial, rfl, rfl, rfl⟩
theorem ok32t : FokM Tryd.prog none1 32 Tryd.f32 := ⟨mixed, by kernel_rfl, by kernel_rfl, by kernel_rfl, by kernel_rfl⟩
theorem r32t (t : List Int) (r : Room) (hp : Tn t ∧ rok t r) : Body ⟨Tryd.prog, Sof (P := Tryd.prog) [c56.to, c69.to, c70.to], Pof (P := Tryd.prog) [], H.nil.base, 300⟩ none1 Tryd.f32 [ls t r] .nil (.tup [I (kgV t t.length : Nat), I 0], .nil) := by
  obtain ⟨h, hr⟩ := hp
  have h8 := h.s.2
  have hb := tn_t h
  have p56 : (lim t.length ∧ rok t r) ∧ inI t := ⟨⟨by simp only [lim]; omega, hr⟩, fun i _ => by have := h.s8 i; simp only [s8] at this; simp only [i64]; omega⟩
  have lp := lp32 t r h hr
  refine body_s ([Ans.o (Orc.val 7 (AV.bool true) (H.mk [] [] [])), Ans.loop [(0 : Nat), (4 : Nat), (10 : Nat), (11 : Nat)] [Out.mk Unit (AX.exit (0 : Nat)) [(4 : Nat)] (fun x => True) (fun x => [I (↑(kgV t t.length) : Int)]) (fun x => H.nil) fun y => []]]) (aCall (Sof [c56.to, c69.to, c70.to]) (AV.fn (Fn.func (56 : Nat)) [] []) [AV.sl (ints t) t.length r] (H.mk [] [] []) = some (AV.bool true, H.mk [] [] []) ∧ LoopS (Env.mk Tryd.prog (Sof [c56.to, c69.to, c70.to]) (Pof (P := Tryd.prog) []) H.nil.base (300 : Nat)) (loopAt Tryd.f32 (0 : Nat)) (26 : Nat) [(0 : Nat), (4 : Nat), (10 : Nat), (11 : Nat)] [AV.sl (ints t) t.length r, I 0, I (↑t.length : Int), I 0] (H.mk [] [] []) [Out.mk Unit (AX.exit (0 : Nat)) [(4 : Nat)] (fun x => True) (fun x => [I (↑(kgV t t.length) : Int)]) (fun x => H.nil) fun y => []] ∧ (∀ (y : Unit), True → ∀ (u : Nat → AV), (AV.tup [I (↑(kgV t t.length) : Int), I 0], H.mk [] [] []) = (AV.tup [I (↑(kgV t t.length) : Int), I 0], H.mk [] [] [])) ∧ True) (by kernel_rfl) ?_
  refine ⟨acall_b (acall_hit (c := c56.to) (t, r) _ rfl p56) hb, ?_⟩
  refine ⟨lp, ?_⟩
  refine And.intro ?_ ?_
  · skip
    intro y
    intro w1
    intro u
    first | with_reducible rfl | (refine bleaf_t ?_; omega) | (refine bleaf_f ?_; omega) | (refine ileaf ?_; omega) | rfl | (exfalso; omega)
  · skip
    trivial
noncomputable def c32t : PCtr Tryd.prog := sctr ok32t (X := List Int × Room) (fun x => [ls x.1 x.2]) (fun x => Tn x.1 ∧ rok x.1 x.2) (fun x => .tup [I (kgV x.1 x.1.length : Nat), I 0]) (by intro x y e _ _; simp [Int.natCast_inj] at e; simp [e]) (fun x => by simp [AV.bnds, AV.bnd, AV.wk, rm_wk_bnd]) (fun x => by first | rfl | (simp [AV.bnd, rm_wk_bnd]; done)  | (simp [AV.bnd, AV.bnds, rm_wk_bnd]; done) | simp [AV.bnd, AV.bnds, Room.bnd, rm_wk_bnd]) (fun x hx => ⟨_, _, _, .pure c56 (.pure c69 (.pure c70 (.nil))), r32t (x.1) (x.2).wk (by first | exact hx | (simp only [rok_wk]; exact hx) | (simp only [rok_wk, lst_wk]; exact hx) | (simp only [rok_wk, lst_wk, lsn_wk]; exact hx))⟩)
theorem ok32f : FokM Tryd.prog none1 32 Tryd.f32 := ⟨mixed, by kernel_rfl, by kernel_rfl, by kernel_rfl, by kernel_rfl⟩
theorem r32f (t : List Int) (r : Room) (hp : (lim t.length ∧ rok t r ∧ inI t) ∧ ¬ Tn t) : Body ⟨Tryd.prog, Sof (P := Tryd.prog) [c56.to], Pof (P := Tryd.prog) [], H.nil.base, 300⟩ none1 Tryd.f32 [ls t r] .nil (.tup [I 0, I 2], .nil) := by
  obtain ⟨⟨h1, hr, h3⟩, hn⟩ := hp
  have hb := tn_f hn
  have p56 : (lim t.length ∧ rok t r) ∧ inI t := ⟨⟨h1, hr⟩, h3⟩
  refine body_s ([Ans.o (Orc.val 7 (AV.bool false) (H.mk [] [] []))]) (aCall (Sof [c56.to]) (AV.fn (Fn.func (56 : Nat)) [] []) [AV.sl (ints t) t.length r] (H.mk [] [] []) = some (AV.bool false, H.mk [] [] []) ∧ (AV.tup [I 0, I 2], H.mk [] [] []) = (AV.tup [I 0, I 2], H.mk [] [] [])) (by kernel_rfl) ?_
  refine ⟨acall_b (acall_hit (c := c56.to) (t, r) _ rfl p56) hb, ?_⟩
  first | with_reducible rfl | (refine bleaf_t ?_; omega) | (refine bleaf_f ?_; omega) | (refine ileaf ?_; omega) | rfl | (exfalso; omega)
noncomputable def c32f : PCtr Tryd.prog := sctr ok32f (X := List Int × Room) (fun x => [ls x.1 x.2]) (fun x => (lim x.1.length ∧ rok x.1 x.2 ∧ inI x.1) ∧ ¬ Tn x.1) (fun x => .tup [I 0, I 2]) (by intro x y e _ _; simp [Int.natCast_inj] at e; simp [e]) (fun x => by simp [AV.bnds, AV.bnd, AV.wk, rm_wk_bnd]) (fun x => by first | rfl | (simp [AV.bnd, rm_wk_bnd]; done)  | (simp [AV.bnd, AV.bnds, rm_wk_bnd]; done) | simp [AV.bnd, AV.bnds, Room.bnd, rm_wk_bnd]) (fun x hx => ⟨_, _, _, .pure c56 (.nil), r32f (x.1) (x.2).wk (by first | exact hx | (simp only [rok_wk]; exact hx) | (simp only [rok_wk, lst_wk]; exact hx) | (simp only [rok_wk, lst_wk, lsn_wk]; exact hx))⟩)
end Go.Proofs.Rnk

