/- Layer 2: how many pairs an order goes against, by the reference. -/
import Derived.Test.YtnnhomkkggkkfaaDoorRkBt
import Derived.KernelRfl
set_option linter.unusedSimpArgs false
set_option linter.unusedVariables false
set_option linter.unnecessarySimpa false
set_option maxHeartbeats 4000000
set_option maxRecDepth 100000
namespace Go.Proofs.Rnk
open Go Go.VM
open Go.Proofs.Sur (andn andn_bit andn_le i_wrap i_and i_or i_xor i_andn i_shl i_shr bit_01)

/-- the pairs that the first k of an order go with -/
def wA (A : Nat → Nat) (o : Nat → Nat) : Nat → Nat
  | 0 => 0
  | k + 1 => wA A o k + pc (A (o k) &&& sO o 0 k)
theorem wA_le {A : Nat → Nat} {o : Nat → Nat} : ∀ k, wA A o k ≤ 8 * k
  | 0 => Nat.le_refl _
  | k + 1 => by
    have := wA_le (A := A) (o := o) k
    have := pc_le (A (o k) &&& sO o 0 k)
    rw [wA]; omega
theorem OB.new {n : Nat} {o : List Int} (ho : OB n o) {k : Nat} (hk : k < n) : (sO (ofn o) 0 k).testBit (ofn o k) = false := by
  cases c : (sO (ofn o) 0 k).testBit (ofn o k)
  · rfl
  · obtain ⟨i, h1, h2⟩ := (sO_bit k).1 c
    rw [Nat.zero_add] at h2
    exact absurd h2 (ho.inj h1 hk)
theorem wA_gs {t o : List Int} (h : Tn t) (ho : OB t.length o) : ∀ k, k ≤ t.length → wA (sn t) (ofn o) k + crX (sn t) (sO (ofn o) 0 k) (rs (alls t.length) (ofn o) k) = gs (sn t) (alls t.length) (ofn o) k
  | 0, _ => by simp only [wA, gs, sO, crX_none]
  | k + 1, hk => by
    have h8 := h.s.2
    have hA := alls_lt h8
    have h1 := wA_gs h ho k (by omega)
    have hw := ho.way h8 k hk
    have h2 := crX_step (A := sn t) (rs_lt (o := ofn o) hA k) hw (ho.new hk) (fun x y hx hy hne => by
      have hx := ((rs_bit hA k).1 hx).1
      have hy := ((rs_bit hA k).1 hy).1
      rw [alls_bit] at hx hy
      exact h.tot (by simpa using hx) (by simpa using hy) hne)
    simp only [wA, gs, sO, rs, Nat.zero_add]
    omega
theorem wA_ag {t o : List Int} (h : Tn t) (ho : OB t.length o) : wA (sn t) (ofn o) t.length = agV t o := by
  have h8 := h.s.2
  have hA := alls_lt h8
  have h1 := wA_gs h ho t.length (Nat.le_refl _)
  have h2 := rs_pc hA (ho.way h8) t.length (Nat.le_refl _)
  have h3 := pc_alls t.length (by omega)
  have h4 := pc_zero (rs_lt (o := ofn o) hA t.length) (by omega)
  rw [h4, crX_zero] at h1
  exact h1
abbrev o40b (t : List Int) (r : Room) (o : List Int) (k : Nat) : List Out := [.mk Unit (.exit 2) [0, 1, 5, 10, 11, 12] (fun _ => True) (fun _ => [ls t r, ls o .no, I (wA (sn t) (ofn o) (k + 1) : Nat), ls o .no, I o.length, I k]) (fun _ => .nil) (fun _ => [])]
theorem simp40b : allSimpleM none1 (loopAt Tryd.f40 1) = true := by kernel_rfl
theorem lp40b (t : List Int) (r : Room) (h : Tn t) (hr : rok t r) (o : List Int) (ho : OB t.length o) (k : Nat) (hk : k < t.length) :
    LoopS (En6 []) (loopAt Tryd.f40 1) 37 [0, 1, 5, 7, 10, 11, 12, 19, 20, 21] [ls t r, ls o .no, I (wA (sn t) (ofn o) k : Nat), I (o.getD k i0), ls o .no, I o.length, I k, .sl (ints (o.take k)) k .no, I k, I 0] .nil (o40b t r o k) := by
  have hR : Rests (En6 []) none1 := rests mixed .nil
  have h8 := h.s.2
  have hlen := ho.le
  have hlt : (o.take k).length = k := by rw [List.length_take]; omega
  have hn0 : pc (sn t (ofn o k) &&& sO (ofn o) 0 0) = 0 := by simp only [sO, Nat.and_zero]; decide
  refine loop_s hR simp40b none (by intro _ h; cases h) (fun j vs H => H = .nil ∧ vs = [ls t r, ls o .no, I (wA (sn t) (ofn o) k + pc (sn t (ofn o k) &&& sO (ofn o) 0 j) : Nat), I (o.getD k i0), ls o .no, I o.length, I k, .sl (ints (o.take k)) k .no, I k, I j]) k ⟨rfl, by rw [hn0]; rfl⟩ (by intro _ h; cases h) ?_
  rintro j vs h' hj ⟨rfl, rfl⟩
  by_cases hz : (j : Int) < k
  · have hz' : j < k := by omega
    have hz2 : j < (o.take k).length := by omega
    have ev0 := wj1 (j := j) (by omega)
    obtain ⟨d0, d1, d2, d3⟩ := ho.pos (k := k) hk
    obtain ⟨f0, f1, f2, f3⟩ := ho.pos (k := j) (by omega)
    have hg : (o.take k).getD j i0 = o.getD j i0 := by simp only [List.getD_eq_getElem?_getD, List.getElem?_take, if_pos hz']
    have g0 : 0 ≤ (o.take k).getD j i0 := by rw [hg]; exact f0
    have hlt2 : (o.getD k i0).toNat < t.length := by omega
    have hri := rok_idx hr hlt2
    have hs8 := h.s8 (ofn o k)
    obtain ⟨ev1, ev2⟩ := i_bitv hs8 (show ofn o j ≤ 64 by omega) (bi (ia t (ofn o k)) (ofn o j)) rfl
    have hsn := h.sn (ofn o k)
    have hb : bi (ia t (ofn o k)) (ofn o j) = (sn t (ofn o k)).testBit (ofn o j) := rfl
    rw [f3, ← hg] at ev1
    have hpc := pc_and_add (a := sn t (ofn o k)) (m := sO (ofn o) 0 j) (q := ofn o j) (by omega) (ho.new (by omega))
    have hw := wA_le (A := sn t) (o := ofn o) k
    have hp8 := pc_le (sn t (ofn o k) &&& sO (ofn o) 0 j)
    have hp9 := pc_le (sn t (ofn o k) &&& (sO (ofn o) 0 j ||| 2 ^ ofn o j))
    have ev3 : IntKind.i64.wrap (((wA (sn t) (ofn o) k + pc (sn t (ofn o k) &&& sO (ofn o) 0 j) : Nat) : Int) + (((bi (ia t (ofn o k)) (ofn o j)).toNat : Nat) : Int)) = ((wA (sn t) (ofn o) k + pc (sn t (ofn o k) &&& sO (ofn o) 0 (j + 1)) : Nat) : Int) := by
      simp only [sO, Nat.zero_add]
      rw [hpc, hb, wr _ (by omega) (by omega)]; omega
    refine ⟨[Ans.o (Orc.b true), Ans.o (Orc.val 23 (AV.cptr (ints (List.drop j (List.take k o)))) H.nil), Ans.o (Orc.val 24 (I ((List.take k o).getD j i0)) H.nil), Ans.o (Orc.val 28 (AV.cptr (ints (List.drop (o.getD k i0).toNat t))) H.nil), Ans.o (Orc.val 29 (I (t.getD (o.getD k i0).toNat i0)) H.nil), Ans.o (Orc.val 31 (I (↑((ia t (ofn o k)).toNat >>> ofn o j) : Int)) H.nil), Ans.o (Orc.val 32 (I (↑(bi (ia t (ofn o k)) (ofn o j)).toNat : Int)) H.nil), Ans.o (Orc.val 33 (I (↑(wA (sn t) (ofn o) k + pc (sn t (ofn o k) &&& sO (ofn o) (0 : Nat) (j + (1 : Nat)))) : Int)) H.nil), Ans.o (Orc.val 34 (I (↑(j + (1 : Nat)) : Int)) H.nil)], fun u => of_eq ((↑j : Int) < (↑k : Int) ∧ aIndexAddr Tryd.prog (22 : Nat) (AV.sl (ints (List.take k o)) k Room.no) (I (↑j : Int)) = some (AV.cptr (ints (List.drop j (List.take k o)))) ∧ aLoad Tryd.prog (3 : Nat) (ints (List.drop j (List.take k o))) = some (I ((List.take k o).getD j i0)) ∧ aIndexAddr Tryd.prog (22 : Nat) (AV.sl (ints t) t.length r) (I (o.getD k i0)) = some (AV.cptr (ints (List.drop (o.getD k i0).toNat t))) ∧ aLoad Tryd.prog (3 : Nat) (ints (List.drop (o.getD k i0).toNat t)) = some (I (t.getD (o.getD k i0).toNat i0)) ∧ aBin Tryd.prog BinOp.shr (3 : Nat) (I (t.getD (o.getD k i0).toNat i0)) (I ((List.take k o).getD j i0)) = some (I (↑((ia t (ofn o k)).toNat >>> ofn o j) : Int)) ∧ aBin Tryd.prog BinOp.and (3 : Nat) (I (↑((ia t (ofn o k)).toNat >>> ofn o j) : Int)) (I 1) = some (I (↑(bi (ia t (ofn o k)) (ofn o j)).toNat : Int)) ∧ aBin Tryd.prog BinOp.add (3 : Nat) (I (↑(wA (sn t) (ofn o) k + pc (sn t (ofn o k) &&& sO (ofn o) (0 : Nat) j)) : Int)) (I (↑(bi (ia t (ofn o k)) (ofn o j)).toNat : Int)) = some (I (↑(wA (sn t) (ofn o) k + pc (sn t (ofn o k) &&& sO (ofn o) (0 : Nat) (j + (1 : Nat)))) : Int)) ∧ aBin Tryd.prog BinOp.add (3 : Nat) (I (↑j : Int)) (I 1) = some (I (↑(j + (1 : Nat)) : Int)) ∧ (37 : Nat) = (37 : Nat) ∧ j < k ∧ Keep (H.mk [] [] [] = H.mk [] [] [] ∧ [AV.sl (ints t) t.length r, AV.sl (ints o) o.length Room.no, I (↑(wA (sn t) (ofn o) k + pc (sn t (ofn o k) &&& sO (ofn o) (0 : Nat) (j + (1 : Nat)))) : Int), I (o.getD k i0), AV.sl (ints o) o.length Room.no, I (↑o.length : Int), I (↑k : Int), AV.sl (ints (List.take k o)) k Room.no, I (↑k : Int), I (↑(j + (1 : Nat)) : Int)] = [AV.sl (ints t) t.length r, AV.sl (ints o) o.length Room.no, I (↑(wA (sn t) (ofn o) k + pc (sn t (ofn o k) &&& sO (ofn o) (0 : Nat) (j + (1 : Nat)))) : Int), I (o.getD k i0), AV.sl (ints o) o.length Room.no, I (↑o.length : Int), I (↑k : Int), AV.sl (ints (List.take k o)) k Room.no, I (↑k : Int), I (↑(j + (1 : Nat)) : Int)])) (by kernel_rfl) ?_⟩
    refine ⟨by first | with_reducible assumption | omega | assumption, ?_⟩
    refine ⟨by first | exact ix_ints (by kernel_rfl) hz' no_ne | exact ix_intsI (by kernel_rfl) d0 d1 hri, ?_⟩
    refine ⟨by first | exact ld_ints (by kernel_rfl) (by kernel_rfl) hz2 | exact ld_ints (by kernel_rfl) (by kernel_rfl) hlt2, ?_⟩
    refine ⟨by first | exact ix_ints (by kernel_rfl) hz' no_ne | exact ix_intsI (by kernel_rfl) d0 d1 hri, ?_⟩
    refine ⟨by first | exact ld_ints (by kernel_rfl) (by kernel_rfl) hz2 | exact ld_ints (by kernel_rfl) (by kernel_rfl) hlt2, ?_⟩
    refine ⟨by first | exact told_shr (by first | exact Int.natCast_nonneg _ | omega) (by with_reducible assumption) | exact told_shr (by omega) rfl, ?_⟩
    refine ⟨told_and (by with_reducible assumption), ?_⟩
    refine ⟨told_add (by with_reducible assumption), ?_⟩
    refine ⟨told_add (by with_reducible assumption), ?_⟩
    refine ⟨by first | with_reducible assumption | omega | assumption, ?_⟩
    refine ⟨by first | with_reducible assumption | omega | assumption, ?_⟩
    exact ⟨rfl, rfl⟩
  · have hz : (k : Int) ≤ j := by omega
    have e : j = k := by omega
    subst e
    refine ⟨[Ans.o (Orc.b false)], fun u => of_eq ((↑j : Int) ≤ (↑j : Int) ∧ (37 : Nat) = (37 : Nat) ∧ hits [Out.mk Unit (AX.exit (2 : Nat)) [(0 : Nat), (1 : Nat), (5 : Nat), (10 : Nat), (11 : Nat), (12 : Nat)] (fun x => True) (fun x => [ls t r, ls o Room.no, I (↑(wA (sn t) (ofn o) (j + (1 : Nat))) : Int), ls o Room.no, I (↑o.length : Int), I (↑j : Int)]) (fun x => H.nil) fun x => []] (AX.exit (2 : Nat)) [AV.sl (ints t) t.length r, AV.sl (ints o) o.length Room.no, u (2 : Nat), u (3 : Nat), u (4 : Nat), I (↑(wA (sn t) (ofn o) j + pc (sn t (ofn o j) &&& sO (ofn o) (0 : Nat) j)) : Int), u (6 : Nat), I (o.getD j i0), u (8 : Nat), u (9 : Nat), AV.sl (ints o) o.length Room.no, I (↑o.length : Int), I (↑j : Int), u (13 : Nat), u (14 : Nat), u (15 : Nat), u (16 : Nat), u (17 : Nat), u (18 : Nat), AV.sl (ints (List.take j o)) j Room.no, I (↑j : Int), I (↑j : Int), AV.bool false, u (23 : Nat), u (24 : Nat), u (25 : Nat), u (26 : Nat), u (27 : Nat), u (28 : Nat), u (29 : Nat), u (30 : Nat), u (31 : Nat), u (32 : Nat), u (33 : Nat), u (34 : Nat), u (35 : Nat), u (36 : Nat)] (H.mk [] [] [])) (by kernel_rfl) ?_⟩
    refine ⟨by first | with_reducible assumption | omega | assumption, ?_⟩
    refine ⟨by first | with_reducible assumption | omega | assumption, ?_⟩
    exact .inl ⟨(), trivial, rfl, rfl, rfl⟩
abbrev o40 (t o : List Int) : List Out := [.mk Unit (.exit 0) [5] (fun _ => True) (fun _ => [I (wA (sn t) (ofn o) t.length : Nat)]) (fun _ => .nil) (fun _ => [])]
theorem simp40 : allSimpleM none1 (loopAt Tryd.f40 0) = true := by kernel_rfl
theorem lp40 (t : List Int) (r : Room) (h : Tn t) (hr : rok t r) (o : List Int) (ho : OB t.length o) :
    LoopS (En6 []) (loopAt Tryd.f40 0) 37 [0, 1, 5, 10, 11, 12] [ls t r, ls o .no, I 0, ls o .no, I o.length, I 0] .nil (o40 t o) := by
  have hR : Rests (En6 []) none1 := rests mixed .nil
  have h8 := h.s.2
  have hlen := ho.le
  refine loop_s hR simp40 none (by intro _ h; cases h) (fun k vs H => H = .nil ∧ vs = [ls t r, ls o .no, I (wA (sn t) (ofn o) k : Nat), ls o .no, I o.length, I k]) t.length ⟨rfl, rfl⟩ (by intro _ h; cases h) ?_
  rintro k vs h' hk ⟨rfl, rfl⟩
  by_cases hz : (k : Int) < o.length
  · have hz' : k < o.length := by omega
    have ev0 := wj1 (j := k) (by omega)
    have hk0 : (0 : Int) ≤ k := by omega
    have hkl : (k : Int) ≤ o.length := by omega
    have lp := lp40b t r h hr o ho k (by omega)
    refine ⟨[Ans.o (Orc.b true), Ans.o (Orc.val 15 (AV.cptr (ints (List.drop k o))) H.nil), Ans.o (Orc.val 16 (I (o.getD k i0)) H.nil), Ans.o (Orc.val 19 (AV.sl (ints (List.take k o)) k Room.no) H.nil), Ans.loop [(0 : Nat), (1 : Nat), (5 : Nat), (7 : Nat), (10 : Nat), (11 : Nat), (12 : Nat), (19 : Nat), (20 : Nat), (21 : Nat)] [Out.mk Unit (AX.exit (2 : Nat)) [(0 : Nat), (1 : Nat), (5 : Nat), (10 : Nat), (11 : Nat), (12 : Nat)] (fun x => True) (fun x => [ls t r, ls o Room.no, I (↑(wA (sn t) (ofn o) (k + (1 : Nat))) : Int), ls o Room.no, I (↑o.length : Int), I (↑k : Int)]) (fun x => H.nil) fun y => [Ans.o (Orc.val 35 (I (↑(k + (1 : Nat)) : Int)) H.nil)]]], fun u => of_eq ((↑k : Int) < (↑o.length : Int) ∧ aIndexAddr Tryd.prog (22 : Nat) (AV.sl (ints o) o.length Room.no) (I (↑k : Int)) = some (AV.cptr (ints (List.drop k o))) ∧ aLoad Tryd.prog (3 : Nat) (ints (List.drop k o)) = some (I (o.getD k i0)) ∧ aSlice Tryd.prog (22 : Nat) (AV.sl (ints o) o.length Room.no) none (some (I (↑k : Int))) none (H.mk [] [] []) = some (AV.sl (ints (List.take k o)) k Room.no) ∧ LoopS (Env.mk Tryd.prog (Sof (P := Tryd.prog) []) (Pof (P := Tryd.prog) []) H.nil.base (300 : Nat)) (loopAt Tryd.f40 (1 : Nat)) (37 : Nat) [(0 : Nat), (1 : Nat), (5 : Nat), (7 : Nat), (10 : Nat), (11 : Nat), (12 : Nat), (19 : Nat), (20 : Nat), (21 : Nat)] [AV.sl (ints t) t.length r, AV.sl (ints o) o.length Room.no, I (↑(wA (sn t) (ofn o) k) : Int), I (o.getD k i0), AV.sl (ints o) o.length Room.no, I (↑o.length : Int), I (↑k : Int), AV.sl (ints (List.take k o)) k Room.no, I (↑k : Int), I 0] (H.mk [] [] []) [Out.mk Unit (AX.exit (2 : Nat)) [(0 : Nat), (1 : Nat), (5 : Nat), (10 : Nat), (11 : Nat), (12 : Nat)] (fun x => True) (fun x => [ls t r, ls o Room.no, I (↑(wA (sn t) (ofn o) (k + (1 : Nat))) : Int), ls o Room.no, I (↑o.length : Int), I (↑k : Int)]) (fun x => H.nil) fun y => [Ans.o (Orc.val 35 (I (↑(k + (1 : Nat)) : Int)) H.nil)]] ∧ (∀ (y : Unit), True → ∀ (u : Nat → AV), aBin Tryd.prog BinOp.add (3 : Nat) (I (↑k : Int)) (I 1) = some (I (↑(k + (1 : Nat)) : Int)) ∧ (37 : Nat) = (37 : Nat) ∧ k < t.length ∧ Keep (H.mk [] [] [] = H.mk [] [] [] ∧ [AV.sl (ints t) t.length r, AV.sl (ints o) o.length Room.no, I (↑(wA (sn t) (ofn o) (k + (1 : Nat))) : Int), AV.sl (ints o) o.length Room.no, I (↑o.length : Int), I (↑(k + (1 : Nat)) : Int)] = [AV.sl (ints t) t.length r, AV.sl (ints o) o.length Room.no, I (↑(wA (sn t) (ofn o) (k + (1 : Nat))) : Int), AV.sl (ints o) o.length Room.no, I (↑o.length : Int), I (↑(k + (1 : Nat)) : Int)])) ∧ True) (by kernel_rfl) ?_⟩
    refine ⟨by first | with_reducible assumption | omega | assumption, ?_⟩
    refine ⟨ix_ints (by kernel_rfl) hz' no_ne, ?_⟩
    refine ⟨ld_ints (by kernel_rfl) (by kernel_rfl) hz', ?_⟩
    refine ⟨sl_ints (by kernel_rfl) hk0 hkl, ?_⟩
    refine ⟨lp, ?_⟩
    refine And.intro ?_ ?_
    · skip
      intro y
      intro w1
      intro u
      refine ⟨told_add (by with_reducible assumption), ?_⟩
      refine ⟨by first | with_reducible assumption | omega | assumption, ?_⟩
      refine ⟨by first | with_reducible assumption | omega | assumption, ?_⟩
      exact ⟨rfl, rfl⟩
    · skip
      trivial
  · have hz : (o.length : Int) ≤ k := by omega
    have e : k = t.length := by omega
    subst e
    refine ⟨[Ans.o (Orc.b false)], fun u => of_eq ((↑o.length : Int) ≤ (↑t.length : Int) ∧ (37 : Nat) = (37 : Nat) ∧ hits [Out.mk Unit (AX.exit (0 : Nat)) [(5 : Nat)] (fun x => True) (fun x => [I (↑(wA (sn t) (ofn o) t.length) : Int)]) (fun x => H.nil) fun x => []] (AX.exit (0 : Nat)) [AV.sl (ints t) t.length r, AV.sl (ints o) o.length Room.no, u (2 : Nat), u (3 : Nat), u (4 : Nat), I (↑(wA (sn t) (ofn o) t.length) : Int), u (6 : Nat), u (7 : Nat), u (8 : Nat), u (9 : Nat), AV.sl (ints o) o.length Room.no, I (↑o.length : Int), I (↑t.length : Int), AV.bool false, u (14 : Nat), u (15 : Nat), u (16 : Nat), u (17 : Nat), u (18 : Nat), u (19 : Nat), u (20 : Nat), u (21 : Nat), u (22 : Nat), u (23 : Nat), u (24 : Nat), u (25 : Nat), u (26 : Nat), u (27 : Nat), u (28 : Nat), u (29 : Nat), u (30 : Nat), u (31 : Nat), u (32 : Nat), u (33 : Nat), u (34 : Nat), u (35 : Nat), u (36 : Nat)] (H.mk [] [] [])) (by kernel_rfl) ?_⟩
    refine ⟨by first | with_reducible assumption | omega | assumption, ?_⟩
    refine ⟨by first | with_reducible assumption | omega | assumption, ?_⟩
    exact .inl ⟨(), trivial, rfl, rfl, rfl⟩
theorem ok40 : FokM Tryd.prog none1 40 Tryd.f40 := ⟨mixed, by kernel_rfl, by kernel_rfl, by kernel_rfl, by kernel_rfl⟩
theorem r40 (t : List Int) (r : Room) (h : Tn t) (hr : rok t r) (o : List Int) (ho : OB t.length o) : Body (En6 []) none1 Tryd.f40 [ls t r, ls o .no] .nil (I (agV t o : Nat), .nil) := by
  have lp := lp40 t r h hr o ho
  have e := wA_ag h ho
  rw [← e]
  refine body_s ([Ans.loop [(0 : Nat), (1 : Nat), (5 : Nat), (10 : Nat), (11 : Nat), (12 : Nat)] [Out.mk Unit (AX.exit (0 : Nat)) [(5 : Nat)] (fun x => True) (fun x => [I (↑(wA (sn t) (ofn o) t.length) : Int)]) (fun x => H.nil) fun y => []]]) (LoopS (Env.mk Tryd.prog (Sof (P := Tryd.prog) []) (Pof (P := Tryd.prog) []) H.nil.base (300 : Nat)) (loopAt Tryd.f40 (0 : Nat)) (37 : Nat) [(0 : Nat), (1 : Nat), (5 : Nat), (10 : Nat), (11 : Nat), (12 : Nat)] [AV.sl (ints t) t.length r, AV.sl (ints o) o.length Room.no, I 0, AV.sl (ints o) o.length Room.no, I (↑o.length : Int), I 0] (H.mk [] [] []) [Out.mk Unit (AX.exit (0 : Nat)) [(5 : Nat)] (fun x => True) (fun x => [I (↑(wA (sn t) (ofn o) t.length) : Int)]) (fun x => H.nil) fun y => []] ∧ (∀ (y : Unit), True → ∀ (u : Nat → AV), (I (↑(wA (sn t) (ofn o) t.length) : Int), H.mk [] [] []) = (I (↑(wA (sn t) (ofn o) t.length) : Int), H.mk [] [] [])) ∧ True) (by kernel_rfl) ?_
  refine ⟨lp, ?_⟩
  refine And.intro ?_ ?_
  · skip
    intro y
    intro w1
    intro u
    first | with_reducible rfl | (refine bleaf_t ?_; omega) | (refine bleaf_f ?_; omega) | (refine ileaf ?_; omega) | rfl | (exfalso; omega)
  · skip
    trivial
/-- 'Against' of the reference -/
noncomputable def c40 : PCtr Tryd.prog where
  f := 40
  X := (List Int × Room) × List Int × Room
  args x := [ls x.1.1 x.1.2, ls x.2.1 x.2.2]
  pre x := (Tn x.1.1 ∧ rok x.1.1 x.1.2) ∧ OB x.1.1.length x.2.1 ∧ rok x.2.1 x.2.2 ∧ em x.2.1 x.2.2
  v x := I (agV x.1.1 x.2.1 : Nat)
  det := by
    rintro ⟨⟨t, r⟩, o, q⟩ ⟨⟨t', r'⟩, o', q'⟩ e _ _
    simp only [List.cons.injEq, AV.sl.injEq, and_true] at e
    obtain ⟨⟨e1, _, _⟩, e2, _, _⟩ := e
    rw [ints_inj e1, ints_inj e2]
  ok := by
    rintro ⟨⟨t, r⟩, o, q⟩ ⟨⟨h, hr⟩, ho, hq, hem⟩
    refine ⟨ok40.call, fun H => ?_⟩
    have hne : o ≠ [] := fun e => by have := ho.le; have := h.s.1; rw [e] at *; simp at *; omega
    have k1 := (r40 t r.wk h (by simpa using hr) o ho).run ok40 .nil rfl
    have k2 := pure_call k1 (by simp [AV.bnds, AV.bnd, rm_wk_bnd]; rfl) (by simp [AV.bnd, AV.bnds]) H
    have : AV.wk (ls o q) = ls o .no := by
      have hq' := hq hne
      cases q with
      | nil => exact absurd rfl hq'
      | e => exact absurd (hem rfl) hne
      | _ => rfl
    have k3 : CallOk Tryd.prog 40 [AV.wk (ls t r), AV.wk (ls o q)] H (I (agV t o : Nat)) H := by rw [this]; exact k2
    exact k3.wk
end Go.Proofs.Rnk

