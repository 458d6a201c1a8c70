/- Joined: SzM, SzN, SzO. -/
import Derived.Test.YtlomlnkafakloaaDoorSzJ
import Derived.Test.YtlomlnkafakloaaDoorSvD
import Derived.Test.YtlomlnkafakloaaDoorSyh
import Derived.KernelRfl
import Derived.Test.YtlomlnkafakloaaDoorVm6
set_option linter.unusedSimpArgs false
set_option linter.unusedVariables false
set_option linter.unnecessarySimpa false
section
set_option maxHeartbeats 4000000
set_option maxRecDepth 100000
namespace Go.Proofs.Sur
open Go Go.VM

def dnN (w : List Pr) : Nat → Nat
  | 0 => 1
  | j + 1 => Nat.lcm (dnN w j) (w.getD j pair0).2.toNat
theorem dnN_pos {w : List Pr} (h : wOKs w) : ∀ j, j ≤ w.length → 0 < dnN w j
  | 0, _ => (by decide : 0 < 1)
  | j + 1, hj => Nat.lcm_pos (dnN_pos h j (by omega)) (by have := (h j (by omega)).1.1; omega)
theorem dnN_le {w : List Pr} (h : wOKs w) : ∀ j, j ≤ w.length → dnN w j ≤ 60 ^ j
  | 0, _ => Nat.le_refl _
  | j + 1, hj => by
    have hd := (h j (by omega)).1
    have h1 := Nat.lcm_le_mul (dnN_pos h j (by omega)) (show 0 < (w.getD j pair0).2.toNat by omega)
    have h2 := Nat.mul_le_mul (dnN_le h j (by omega)) (show (w.getD j pair0).2.toNat ≤ 60 by omega)
    rw [Nat.pow_succ]
    exact Nat.le_trans h1 h2
theorem dnN_dvd (w : List Pr) : ∀ j i, i < j → (w.getD i pair0).2.toNat ∣ dnN w j
  | 0, i, h => absurd h (Nat.not_lt_zero _)
  | j + 1, i, h => by
    by_cases e : i = j
    · subst e; exact Nat.dvd_lcm_right _ _
    · exact Nat.dvd_trans (dnN_dvd w j i (by omega)) (Nat.dvd_lcm_left _ _)
theorem dn_b {w : List Pr} (h : wOKs w) (h6 : w.length ≤ 6) {j : Nat} (hj : j ≤ w.length) : 1 ≤ dnN w j ∧ dnN w j ≤ 46656000000 := by
  have h1 := dnN_pos h j hj
  have h2 := dnN_le h j hj
  have h3 : 60 ^ j ≤ 60 ^ 6 := Nat.pow_le_pow_right (by decide) (by omega)
  omega
theorem dn_ev {w : List Pr} (h : wOKs w) {j : Nat} (hj : j < w.length) : ((dnN w j : Nat) : Int).tdiv (gcI ((dnN w j : Nat) : Int) (w.getD j pair0).2) * (w.getD j pair0).2 = ((dnN w (j + 1) : Nat) : Int) := by
  have hd := (h j hj).1
  obtain ⟨d, hd'⟩ : ∃ d : Nat, (w.getD j pair0).2 = d := ⟨(w.getD j pair0).2.toNat, by omega⟩
  have e : dnN w (j + 1) = Nat.lcm (dnN w j) d := by
    show Nat.lcm (dnN w j) (w.getD j pair0).2.toNat = _
    rw [hd']; rfl
  rw [e, hd']
  have e2 : gcI ((dnN w j : Nat) : Int) (d : Nat) = ((Nat.gcd (dnN w j) d : Nat) : Int) := rfl
  rw [e2, ← Int.ofNat_tdiv, ← Int.natCast_mul, Nat.div_mul_right_comm (Nat.gcd_dvd_left _ _)]
  rfl
def nmX (w : List Pr) (j : Nat) : Int := ((dnN w w.length : Nat) : Int).tdiv (w.getD j pair0).2 * (w.getD j pair0).1
theorem nmX_b {w : List Pr} (h : wOKs w) {j : Nat} (hj : j < w.length) : 0 ≤ ((dnN w w.length : Nat) : Int).tdiv (w.getD j pair0).2 ∧ ((dnN w w.length : Nat) : Int).tdiv (w.getD j pair0).2 * (w.getD j pair0).2 = (dnN w w.length : Nat) ∧ 0 ≤ nmX w j ∧ nmX w j ≤ (dnN w w.length : Nat) := by
  have hd := (h j hj).1
  have hn := (h j hj).2.1
  have hv := dnN_dvd w w.length j hj
  obtain ⟨d, hd'⟩ : ∃ d : Nat, (w.getD j pair0).2 = d := ⟨(w.getD j pair0).2.toNat, by omega⟩
  have hv' : d ∣ dnN w w.length := by rw [hd'] at hv; exact hv
  have e0 : ((dnN w w.length : Nat) : Int).tdiv (w.getD j pair0).2 = ((dnN w w.length / d : Nat) : Int) := by rw [hd', ← Int.ofNat_tdiv]
  have e1 : ((dnN w w.length / d : Nat) : Int) * (d : Int) = (dnN w w.length : Nat) := by
    rw [← Int.natCast_mul, Nat.div_mul_cancel hv']
  unfold nmX
  rw [e0]
  have h3 : (0 : Int) ≤ ((dnN w w.length / d : Nat) : Int) := Int.natCast_nonneg _
  refine ⟨h3, by rw [hd']; exact e1, Int.mul_nonneg h3 hn.1, ?_⟩
  have := Int.mul_le_mul_of_nonneg_left hn.2 h3
  rw [hd', e1] at this
  exact this
abbrev pzc (w : List Pr) (q : Room) : AV := pz w q.wk
abbrev o34a (g : List Int) (r : Room) (w : List Pr) (q : Room) : List Out := [.mk Unit (.exit 0) [0, 1, 6] (fun _ => True) (fun _ => [ls g r.wk, pzc w q, I (dnN w w.length : Nat)]) (fun _ => .nil) (fun _ => [])]
theorem simp34a : allSimpleM none1 (loopAt Tryd.f34 0) = true := by kernel_rfl
theorem lp34a (g : List Int) (r : Room) (w : List Pr) (q : Room) (h2 : rok w q) (hw : wOKs w) (h6 : w.length ≤ 6) :
    LoopS (En6 [c67.to, c69.to, c70.to, c68.to, c71.to]) (loopAt Tryd.f34 0) 76 [0, 1, 6, 29, 30, 31] [ls g r.wk, pzc w q, I 1, pzc w q, I w.length, I 0] .nil (o34a g r w q) := by
  have hR : Rests (En6 [c67.to, c69.to, c70.to, c68.to, c71.to]) none1 := rests mixed (.pure _ (.pure _ (.pure _ (.pure _ (.pure _ .nil)))))
  refine loop_s hR simp34a (some 0) (by intro nb h; cases h; exact ⟨Nat.zero_le _, Nat.le_refl 0⟩) (fun j vs h => h = .nil ∧ vs = [ls g r.wk, pzc w q, I (dnN w j : Nat), pzc w q, I w.length, I (j : Nat)] ∧ j ≤ w.length) w.length ⟨rfl, rfl, Nat.zero_le _⟩ (by rintro nb h j vs h' ⟨rfl, _⟩; cases h; exact Nat.le_refl 0) ?_
  have h3 : rok w q.wk := by simpa using h2
  rintro j vs h hj ⟨rfl, rfl, hle⟩
  by_cases hz : (j : Int) < w.length
  · have hz' : j < w.length := by omega
    have hr := rok_idx h3 hz'
    have ev0 : IntKind.i64.wrap ((j : Int) + 1) = ((j + 1 : Nat) : Int) := by
      have : (j : Int) + 1 = ((j + 1 : Nat) : Int) := by omega
      rw [this]; exact i_wrap (by omega)
    have hd := (hw j hz').1
    have b0 := dn_b hw h6 (j := j) (by omega)
    have b1 := dn_b hw h6 (j := j + 1) hz'
    have p70 : nn6 ((dnN w j : Nat) : Int) ∧ nn6 (w.getD j pair0).2 := ⟨⟨by omega, by omega⟩, ⟨by omega, by omega⟩⟩
    have g1 : 1 ≤ gcI ((dnN w j : Nat) : Int) (w.getD j pair0).2 := by
      have : 0 < Nat.gcd ((dnN w j : Nat) : Int).toNat (w.getD j pair0).2.toNat := Nat.gcd_pos_of_pos_right _ (by omega)
      show (1 : Int) ≤ ((Nat.gcd _ _ : Nat) : Int)
      omega
    have g0 : gcI ((dnN w j : Nat) : Int) (w.getD j pair0).2 ≠ 0 := by omega
    have d1 : 0 ≤ ((dnN w j : Nat) : Int).tdiv (gcI ((dnN w j : Nat) : Int) (w.getD j pair0).2) ∧ ((dnN w j : Nat) : Int).tdiv (gcI ((dnN w j : Nat) : Int) (w.getD j pair0).2) ≤ dnN w j := ⟨Int.tdiv_nonneg (by omega) (by omega), by rw [Int.tdiv_eq_ediv_of_nonneg (by omega)]; exact Int.ediv_le_self _ (by omega)⟩
    have ev1 : IntKind.i64.wrap (((dnN w j : Nat) : Int).tdiv (gcI ((dnN w j : Nat) : Int) (w.getD j pair0).2)) = ((dnN w j : Nat) : Int).tdiv (gcI ((dnN w j : Nat) : Int) (w.getD j pair0).2) := wr _ (by omega) (by omega)
    have ev2 : IntKind.i64.wrap (((dnN w j : Nat) : Int).tdiv (gcI ((dnN w j : Nat) : Int) (w.getD j pair0).2) * (w.getD j pair0).2) = ((dnN w (j + 1) : Nat) : Int) := by
      rw [dn_ev hw hz']; exact i_wrap (by omega)
    have hcl : AV.bnds 0 0 0 [ls g r.wk, pzc w q, I (dnN w (j + 1) : Nat), pzc w q, I w.length, I (j + 1 : Nat)] = true := by simp [AV.bnds, AV.bnd, rm_wk_bnd]
    refine ⟨[Ans.o (Orc.b true), Ans.o (Orc.val 33 (AV.cptr (pairsA (List.drop j w))) H.nil), Ans.o (Orc.val 34 (AV.agg [I (w.getD j pair0).fst, I (w.getD j pair0).snd]) H.nil), Ans.o (Orc.val 39 (I (gcI (↑(dnN w j) : Int) (w.getD j pair0).snd)) (H.mk [[I (w.getD j pair0).fst, I (w.getD j pair0).snd]] [] [])), Ans.o (Orc.val 43 (I (↑(dnN w (j + (1 : Nat))) : Int)) H.nil), Ans.o (Orc.val 44 (I (↑(j + (1 : Nat)) : Int)) H.nil)], fun u => of_eq ((↑j : Int) < (↑w.length : Int) ∧ aIndexAddr Tryd.prog 42 (AV.sl (pairsA w) w.length q.wk) (I (↑j : Int)) = some (AV.cptr (pairsA (List.drop j w))) ∧ aLoad Tryd.prog 28 (pairsA (List.drop j w)) = some (AV.agg [I (w.getD j pair0).fst, I (w.getD j pair0).snd]) ∧ aCall (Sof [c67.to, c69.to, c70.to, c68.to, c71.to]) (AV.fn (Fn.func 70) [] []) [I (↑(dnN w j) : Int), I (w.getD j pair0).snd] (H.mk [[I (w.getD j pair0).fst, I (w.getD j pair0).snd]] [] []) = some (I (gcI (↑(dnN w j) : Int) (w.getD j pair0).snd), H.mk [[I (w.getD j pair0).fst, I (w.getD j pair0).snd]] [] []) ∧ gcI (↑(dnN w j) : Int) (w.getD j pair0).snd ≠ (0 : Int) ∧ IntKind.i64.wrap ((↑(dnN w j) : Int).tdiv (gcI (↑(dnN w j) : Int) (w.getD j pair0).snd)) = (↑(dnN w j) : Int).tdiv (gcI (↑(dnN w j) : Int) (w.getD j pair0).snd) ∧ aBin Tryd.prog BinOp.mul (3 : Nat) (I ((↑(dnN w j) : Int).tdiv (gcI (↑(dnN w j) : Int) (w.getD j pair0).snd))) (I (w.getD j pair0).snd) = some (I (↑(dnN w (j + (1 : Nat))) : Int)) ∧ aBin Tryd.prog BinOp.add (3 : Nat) (I (↑j : Int)) (I 1) = some (I (↑(j + (1 : Nat)) : Int)) ∧ (76 : Nat) = (76 : Nat) ∧ j < w.length ∧ Keep (AV.bnds (0 : Nat) (0 : Nat) (0 : Nat) [ls g r.wk, AV.sl (pairsA w) w.length q.wk, I (↑(dnN w (j + (1 : Nat))) : Int), AV.sl (pairsA w) w.length q.wk, I (↑w.length : Int), I (↑(j + (1 : Nat)) : Int)] = true ∧ (H.mk [[I (w.getD j pair0).fst, I (w.getD j pair0).snd]] [] []).clean (0 : Nat) ∧ H.mk [] [] [] = H.mk [] [] [] ∧ [ls g r.wk, AV.sl (pairsA w) w.length q.wk, I (↑(dnN w (j + (1 : Nat))) : Int), AV.sl (pairsA w) w.length q.wk, I (↑w.length : Int), I (↑(j + (1 : Nat)) : Int)] = [ls g r.wk, AV.sl (pairsA w) w.length q.wk, I (↑(dnN w (j + (1 : Nat))) : Int), AV.sl (pairsA w) w.length q.wk, I (↑w.length : Int), I (↑(j + (1 : Nat)) : Int)] ∧ j + (1 : Nat) ≤ w.length)) (by kernel_rfl) ?_⟩
    refine ⟨by first | with_reducible assumption | omega | assumption, ?_⟩
    refine ⟨by first | exact ix_pairs (by kernel_rfl) (by omega) (by assumption) | exact ix_pairs (by kernel_rfl) (by omega) (rok_idx (by assumption) (by omega)), ?_⟩
    refine ⟨ld_pairs (by kernel_rfl) (by kernel_rfl) (by kernel_rfl) (by omega), ?_⟩
    refine ⟨acall_hit (c := c70.to) (((dnN w j : Nat) : Int), (w.getD j pair0).2) _ rfl p70, ?_⟩
    refine ⟨by first | with_reducible assumption | omega | assumption, ?_⟩
    refine ⟨wr _ (by omega) (by omega), ?_⟩
    refine ⟨told_mul (by with_reducible assumption), ?_⟩
    refine ⟨told_add (by with_reducible assumption), ?_⟩
    refine ⟨by first | with_reducible assumption | omega | assumption, ?_⟩
    refine ⟨by first | with_reducible assumption | omega | assumption, ?_⟩
    exact ⟨hcl, clean0 _, rfl, rfl, hz'⟩
  · have hz : (w.length : Int) ≤ j := by omega
    have e : j = w.length := by omega
    subst e
    refine ⟨[Ans.o (Orc.b false)], fun u => of_eq ((↑w.length : Int) ≤ (↑w.length : Int) ∧ (76 : Nat) = (76 : Nat) ∧ hits [Out.mk Unit (AX.exit 0) [0, 1, 6] (fun x => True) (fun x => [ls g r.wk, pzc w q, I (↑(dnN w w.length) : Int)]) (fun x => H.nil) fun x => []] (AX.exit 0) [ls g r.wk, AV.sl (pairsA w) w.length q.wk, u (2 : Nat), u (3 : Nat), u (4 : Nat), u (5 : Nat), I (↑(dnN w w.length) : Int), u (7 : Nat), u (8 : Nat), u (9 : Nat), u (10 : Nat), u (11 : Nat), u (12 : Nat), u (13 : Nat), u (14 : Nat), u (15 : Nat), u (16 : Nat), u (17 : Nat), u (18 : Nat), u (19 : Nat), u (20 : Nat), u (21 : Nat), u (22 : Nat), u (23 : Nat), u (24 : Nat), u (25 : Nat), u (26 : Nat), u (27 : Nat), u (28 : Nat), AV.sl (pairsA w) w.length q.wk, I (↑w.length : Int), I (↑w.length : Int), AV.bool false, u (33 : Nat), u (34 : Nat), u (35 : Nat), u (36 : Nat), u (37 : Nat), u (38 : Nat), u (39 : Nat), u (40 : Nat), u (41 : Nat), u (42 : Nat), u (43 : Nat), u (44 : Nat), u (45 : Nat), u (46 : Nat), u (47 : Nat), u (48 : Nat), u (49 : Nat), u (50 : Nat), u (51 : Nat), u (52 : Nat), u (53 : Nat), u (54 : Nat), u (55 : Nat), u (56 : Nat), u (57 : Nat), u (58 : Nat), u (59 : Nat), u (60 : Nat), u (61 : Nat), u (62 : Nat), u (63 : Nat), u (64 : Nat), u (65 : Nat), u (66 : Nat), u (67 : Nat), u (68 : Nat), u (69 : Nat), u (70 : Nat), u (71 : Nat), u (72 : Nat), u (73 : Nat), u (74 : Nat), u (75 : Nat)] (H.mk [] [] [])) (by kernel_rfl) ?_⟩
    refine ⟨by first | with_reducible assumption | omega | assumption, ?_⟩
    refine ⟨by first | with_reducible assumption | omega | assumption, ?_⟩
    exact .inl ⟨(), trivial, rfl, rfl, rfl⟩
abbrev pzS (g : List Int) (w : List Pr) (i j : Nat) : Int := sm j (fun v => if bS (clV g) i v = true then nmX w v else 0)
theorem pzS_b {g : List Int} {w : List Pr} (h : wOKs w) (h6 : w.length ≤ 6) (i : Nat) : ∀ j, j ≤ w.length → 0 ≤ pzS g w i j ∧ pzS g w i j ≤ j * 46656000000
  | 0, _ => ⟨Int.le_refl 0, Int.le_refl _⟩
  | j + 1, hj => by
    obtain ⟨h1, h2⟩ := pzS_b (g := g) h h6 i j (by omega)
    obtain ⟨_, _, h3, h4⟩ := nmX_b h (show j < w.length by omega)
    have h5 := dn_b h h6 (Nat.le_refl w.length)
    have e : pzS g w i (j + 1) = pzS g w i j + (if bS (clV g) i j = true then nmX w j else 0) := rfl
    rw [e]
    split <;> omega
abbrev liP (g : List Int) (w : List Pr) : Prop := ∀ i, i < (clV g).length → pzS g w i w.length ≤ (dnN w w.length : Nat)
abbrev cl34 (g : List Int) : AV := ls (clV g) (rn (clV g))
abbrev o34i (g : List Int) (w : List Pr) (q : Room) (i : Nat) : List Out := [.mk Unit (.exit 4) [1, 6, 11, 46, 47, 48] (fun _ => True) (fun _ => [pzc w q, I (dnN w w.length : Nat), I (pzS g w i w.length), cl34 g, I (clV g).length, I (i : Nat)]) (fun _ => .nil) (fun _ => [])]
theorem simp34i : allSimpleM none1 (loopAt Tryd.f34 2) = true := by kernel_rfl
theorem lp34i (g : List Int) (w : List Pr) (q : Room) (hg : Gr g) (h2 : rok w q) (hw : wOKs w) (h6 : w.length ≤ 6) (i : Nat) (hi : i < (clV g).length) :
    LoopS (En6 [c67.to, c69.to, c70.to, c68.to, c71.to]) (loopAt Tryd.f34 2) 76 [1, 6, 10, 11, 46, 47, 48, 52, 53, 54] [pzc w q, I (dnN w w.length : Nat), I (at_ (clV g) i), I 0, cl34 g, I (clV g).length, I (i : Nat), pzc w q, I w.length, I 0] .nil (o34i g w q i) := by
  have hR : Rests (En6 [c67.to, c69.to, c70.to, c68.to, c71.to]) none1 := rests mixed (.pure _ (.pure _ (.pure _ (.pure _ (.pure _ .nil)))))
  refine loop_s hR simp34i (some 0) (by intro nb h; cases h; exact ⟨Nat.zero_le _, Nat.le_refl 0⟩) (fun j vs h => h = .nil ∧ vs = [pzc w q, I (dnN w w.length : Nat), I (at_ (clV g) i), I (pzS g w i j), cl34 g, I (clV g).length, I (i : Nat), pzc w q, I w.length, I (j : Nat)] ∧ j ≤ w.length) w.length ⟨rfl, rfl, Nat.zero_le _⟩ (by rintro nb h j vs h' ⟨rfl, _⟩; cases h; exact Nat.le_refl 0) ?_
  have h3 : rok w q.wk := by simpa using h2
  have hset := clV_mem hg.1 (clV_get hi)
  have h64 := pw_64 hg.1.2
  rintro j vs h hj ⟨rfl, rfl, hle⟩
  by_cases hz : (j : Int) < w.length
  · have hz' : j < w.length := by omega
    have hr := rok_idx h3 hz'
    have ev0 : IntKind.i64.wrap ((j : Int) + 1) = ((j + 1 : Nat) : Int) := by
      have : (j : Int) + 1 = ((j + 1 : Nat) : Int) := by omega
      rw [this]; exact i_wrap (by omega)
    have hd := (hw j hz').1
    have hd0 : (w.getD j pair0).2 ≠ 0 := by omega
    have b0 := dn_b hw h6 (Nat.le_refl w.length)
    obtain ⟨n1, n2, n3, n4⟩ := nmX_b hw hz'
    obtain ⟨s1, s2⟩ := pzS_b (g := g) hw h6 i j (by omega)
    have n5 : ((dnN w w.length : Nat) : Int).tdiv (w.getD j pair0).2 ≤ dnN w w.length := by rw [Int.tdiv_eq_ediv_of_nonneg (by omega)]; exact Int.ediv_le_self _ (by omega)
    have ev1 : IntKind.i64.wrap (((dnN w w.length : Nat) : Int).tdiv (w.getD j pair0).2) = ((dnN w w.length : Nat) : Int).tdiv (w.getD j pair0).2 := wr _ (by omega) (by omega)
    have ev2 : IntKind.i64.wrap (((dnN w w.length : Nat) : Int).tdiv (w.getD j pair0).2 * (w.getD j pair0).1) = nmX w j := wr _ (by show _ ≤ nmX w j; omega) (by show nmX w j ≤ _; omega)
    have ev3 : IntKind.i64.wrap (pzS g w i j + nmX w j) = pzS g w i j + nmX w j := wr _ (by omega) (by omega)
    have p71 : (0 ≤ at_ (clV g) i ∧ at_ (clV g) i < 9223372036854775808) ∧ 0 ≤ (j : Int) ∧ (j : Int) ≤ 64 := ⟨⟨by omega, by omega⟩, by omega⟩
    have hcl : ∀ x : Int, AV.bnds 0 0 0 [pzc w q, I (dnN w w.length : Nat), I (at_ (clV g) i), I x, cl34 g, I (clV g).length, I (i : Nat), pzc w q, I w.length, I (j + 1 : Nat)] = true := fun x => by simp [AV.bnds, AV.bnd, rm_wk_bnd]
    have hsu : pzS g w i (j + 1) = pzS g w i j + (if bS (clV g) i j = true then nmX w j else 0) := rfl
    cases c1 : bi (at_ (clV g) i) ((j : Int)).toNat
    · have c1' : bS (clV g) i j = false := c1
      have e : pzS g w i (j + 1) = pzS g w i j := by rw [hsu, c1', if_neg (by decide), Int.add_zero]
      generalize pzS g w i j = T at *
      refine ⟨[Ans.o (Orc.b true), Ans.o (Orc.val 57 (AV.cptr (pairsA (List.drop j w))) H.nil), Ans.o (Orc.val 58 (AV.agg [I (w.getD j pair0).fst, I (w.getD j pair0).snd]) H.nil), Ans.o (Orc.val 61 (AV.bool false) (H.mk [[I (w.getD j pair0).fst, I (w.getD j pair0).snd]] [] [])), Ans.o (Orc.val 71 (I (↑(j + (1 : Nat)) : Int)) H.nil)], fun u => of_eq ((↑j : Int) < (↑w.length : Int) ∧ aIndexAddr Tryd.prog 42 (AV.sl (pairsA w) w.length q.wk) (I (↑j : Int)) = some (AV.cptr (pairsA (List.drop j w))) ∧ aLoad Tryd.prog 28 (pairsA (List.drop j w)) = some (AV.agg [I (w.getD j pair0).fst, I (w.getD j pair0).snd]) ∧ aCall (Sof [c67.to, c69.to, c70.to, c68.to, c71.to]) (AV.fn (Fn.func 71) [] []) [I (at_ (clV g) i), I (↑j : Int)] (H.mk [[I (w.getD j pair0).fst, I (w.getD j pair0).snd]] [] []) = some (AV.bool false, H.mk [[I (w.getD j pair0).fst, I (w.getD j pair0).snd]] [] []) ∧ aBin Tryd.prog BinOp.add (3 : Nat) (I (↑j : Int)) (I 1) = some (I (↑(j + (1 : Nat)) : Int)) ∧ (76 : Nat) = (76 : Nat) ∧ j < w.length ∧ Keep (AV.bnds (0 : Nat) (0 : Nat) (0 : Nat) [AV.sl (pairsA w) w.length q.wk, I (↑(dnN w w.length) : Int), I (at_ (clV g) i), I T, ls (clV g) (rn (clV g)), I (↑(clV g).length : Int), I (↑i : Int), AV.sl (pairsA w) w.length q.wk, I (↑w.length : Int), I (↑(j + (1 : Nat)) : Int)] = true ∧ (H.mk [[I (w.getD j pair0).fst, I (w.getD j pair0).snd]] [] []).clean (0 : Nat) ∧ H.mk [] [] [] = H.mk [] [] [] ∧ [AV.sl (pairsA w) w.length q.wk, I (↑(dnN w w.length) : Int), I (at_ (clV g) i), I T, ls (clV g) (rn (clV g)), I (↑(clV g).length : Int), I (↑i : Int), AV.sl (pairsA w) w.length q.wk, I (↑w.length : Int), I (↑(j + (1 : Nat)) : Int)] = [AV.sl (pairsA w) w.length q.wk, I (↑(dnN w w.length) : Int), I (at_ (clV g) i), I (pzS g w i (j + (1 : Nat))), ls (clV g) (rn (clV g)), I (↑(clV g).length : Int), I (↑i : Int), AV.sl (pairsA w) w.length q.wk, I (↑w.length : Int), I (↑(j + (1 : Nat)) : Int)] ∧ j + (1 : Nat) ≤ w.length)) (by kernel_rfl) ?_⟩
      refine ⟨by first | with_reducible assumption | omega | assumption, ?_⟩
      refine ⟨by first | exact ix_pairs (by kernel_rfl) (by omega) (by assumption) | exact ix_pairs (by kernel_rfl) (by omega) (rok_idx (by assumption) (by omega)), ?_⟩
      refine ⟨ld_pairs (by kernel_rfl) (by kernel_rfl) (by kernel_rfl) (by omega), ?_⟩
      refine ⟨acall_b (acall_hit (c := c71.to) (at_ (clV g) i, (j : Int)) _ rfl p71) c1, ?_⟩
      refine ⟨told_add (by with_reducible assumption), ?_⟩
      refine ⟨by first | with_reducible assumption | omega | assumption, ?_⟩
      refine ⟨by first | with_reducible assumption | omega | assumption, ?_⟩
      exact ⟨hcl _, clean0 _, rfl, by rw [e], hz'⟩
    · have c1' : bS (clV g) i j = true := c1
      have e : pzS g w i (j + 1) = pzS g w i j + nmX w j := by rw [hsu, c1', if_pos rfl]
      generalize pzS g w i j = T at *
      refine ⟨[Ans.o (Orc.b true), Ans.o (Orc.val 57 (AV.cptr (pairsA (List.drop j w))) H.nil), Ans.o (Orc.val 58 (AV.agg [I (w.getD j pair0).fst, I (w.getD j pair0).snd]) H.nil), Ans.o (Orc.val 61 (AV.bool true) (H.mk [[I (w.getD j pair0).fst, I (w.getD j pair0).snd]] [] [])), Ans.o (Orc.val 69 (I (nmX w j)) H.nil), Ans.o (Orc.val 70 (I (T + nmX w j)) H.nil), Ans.o (Orc.val 71 (I (↑(j + (1 : Nat)) : Int)) H.nil)], fun u => of_eq ((↑j : Int) < (↑w.length : Int) ∧ aIndexAddr Tryd.prog 42 (AV.sl (pairsA w) w.length q.wk) (I (↑j : Int)) = some (AV.cptr (pairsA (List.drop j w))) ∧ aLoad Tryd.prog 28 (pairsA (List.drop j w)) = some (AV.agg [I (w.getD j pair0).fst, I (w.getD j pair0).snd]) ∧ aCall (Sof [c67.to, c69.to, c70.to, c68.to, c71.to]) (AV.fn (Fn.func 71) [] []) [I (at_ (clV g) i), I (↑j : Int)] (H.mk [[I (w.getD j pair0).fst, I (w.getD j pair0).snd]] [] []) = some (AV.bool true, H.mk [[I (w.getD j pair0).fst, I (w.getD j pair0).snd]] [] []) ∧ (w.getD j pair0).snd ≠ (0 : Int) ∧ IntKind.i64.wrap ((↑(dnN w w.length) : Int).tdiv (w.getD j pair0).snd) = (↑(dnN w w.length) : Int).tdiv (w.getD j pair0).snd ∧ aBin Tryd.prog BinOp.mul (3 : Nat) (I ((↑(dnN w w.length) : Int).tdiv (w.getD j pair0).snd)) (I (w.getD j pair0).fst) = some (I (nmX w j)) ∧ aBin Tryd.prog BinOp.add (3 : Nat) (I T) (I (nmX w j)) = some (I (T + nmX w j)) ∧ aBin Tryd.prog BinOp.add (3 : Nat) (I (↑j : Int)) (I 1) = some (I (↑(j + (1 : Nat)) : Int)) ∧ (76 : Nat) = (76 : Nat) ∧ j < w.length ∧ Keep (AV.bnds (0 : Nat) (0 : Nat) (0 : Nat) [AV.sl (pairsA w) w.length q.wk, I (↑(dnN w w.length) : Int), I (at_ (clV g) i), I (T + nmX w j), ls (clV g) (rn (clV g)), I (↑(clV g).length : Int), I (↑i : Int), AV.sl (pairsA w) w.length q.wk, I (↑w.length : Int), I (↑(j + (1 : Nat)) : Int)] = true ∧ (H.mk [[I (w.getD j pair0).fst, I (w.getD j pair0).snd]] [] []).clean (0 : Nat) ∧ H.mk [] [] [] = H.mk [] [] [] ∧ [AV.sl (pairsA w) w.length q.wk, I (↑(dnN w w.length) : Int), I (at_ (clV g) i), I (T + nmX w j), ls (clV g) (rn (clV g)), I (↑(clV g).length : Int), I (↑i : Int), AV.sl (pairsA w) w.length q.wk, I (↑w.length : Int), I (↑(j + (1 : Nat)) : Int)] = [AV.sl (pairsA w) w.length q.wk, I (↑(dnN w w.length) : Int), I (at_ (clV g) i), I (pzS g w i (j + (1 : Nat))), ls (clV g) (rn (clV g)), I (↑(clV g).length : Int), I (↑i : Int), AV.sl (pairsA w) w.length q.wk, I (↑w.length : Int), I (↑(j + (1 : Nat)) : Int)] ∧ j + (1 : Nat) ≤ w.length)) (by kernel_rfl) ?_⟩
      refine ⟨by first | with_reducible assumption | omega | assumption, ?_⟩
      refine ⟨by first | exact ix_pairs (by kernel_rfl) (by omega) (by assumption) | exact ix_pairs (by kernel_rfl) (by omega) (rok_idx (by assumption) (by omega)), ?_⟩
      refine ⟨ld_pairs (by kernel_rfl) (by kernel_rfl) (by kernel_rfl) (by omega), ?_⟩
      refine ⟨acall_b (acall_hit (c := c71.to) (at_ (clV g) i, (j : Int)) _ rfl p71) c1, ?_⟩
      refine ⟨by first | with_reducible assumption | omega | assumption, ?_⟩
      refine ⟨wr _ (by omega) (by omega), ?_⟩
      refine ⟨told_mul (by with_reducible assumption), ?_⟩
      refine ⟨told_add (by with_reducible assumption), ?_⟩
      refine ⟨told_add (by with_reducible assumption), ?_⟩
      refine ⟨by first | with_reducible assumption | omega | assumption, ?_⟩
      refine ⟨by first | with_reducible assumption | omega | assumption, ?_⟩
      exact ⟨hcl _, clean0 _, rfl, by rw [e], hz'⟩
  · have hz : (w.length : Int) ≤ j := by omega
    have e : j = w.length := by omega
    subst e
    refine ⟨[Ans.o (Orc.b false)], fun u => of_eq ((↑w.length : Int) ≤ (↑w.length : Int) ∧ (76 : Nat) = (76 : Nat) ∧ hits [Out.mk Unit (AX.exit 4) [1, 6, 11, 46, 47, 48] (fun x => True) (fun x => [pzc w q, I (↑(dnN w w.length) : Int), I (pzS g w i w.length), cl34 g, I (↑(clV g).length : Int), I (↑i : Int)]) (fun x => H.nil) fun x => []] (AX.exit 4) [u (0 : Nat), AV.sl (pairsA w) w.length q.wk, u (2 : Nat), u (3 : Nat), u (4 : Nat), u (5 : Nat), I (↑(dnN w w.length) : Int), u (7 : Nat), u (8 : Nat), u (9 : Nat), I (at_ (clV g) i), I (pzS g w i w.length), u (12 : Nat), u (13 : Nat), u (14 : Nat), u (15 : Nat), u (16 : Nat), u (17 : Nat), u (18 : Nat), u (19 : Nat), u (20 : Nat), u (21 : Nat), u (22 : Nat), u (23 : Nat), u (24 : Nat), u (25 : Nat), u (26 : Nat), u (27 : Nat), u (28 : Nat), u (29 : Nat), u (30 : Nat), u (31 : Nat), u (32 : Nat), u (33 : Nat), u (34 : Nat), u (35 : Nat), u (36 : Nat), u (37 : Nat), u (38 : Nat), u (39 : Nat), u (40 : Nat), u (41 : Nat), u (42 : Nat), u (43 : Nat), u (44 : Nat), u (45 : Nat), ls (clV g) (rn (clV g)), I (↑(clV g).length : Int), I (↑i : Int), u (49 : Nat), u (50 : Nat), u (51 : Nat), AV.sl (pairsA w) w.length q.wk, I (↑w.length : Int), I (↑w.length : Int), AV.bool false, u (56 : Nat), u (57 : Nat), u (58 : Nat), u (59 : Nat), u (60 : Nat), u (61 : Nat), u (62 : Nat), u (63 : Nat), u (64 : Nat), u (65 : Nat), u (66 : Nat), u (67 : Nat), u (68 : Nat), u (69 : Nat), u (70 : Nat), u (71 : Nat), u (72 : Nat), u (73 : Nat), u (74 : Nat), u (75 : Nat)] (H.mk [] [] [])) (by kernel_rfl) ?_⟩
    refine ⟨by first | with_reducible assumption | omega | assumption, ?_⟩
    refine ⟨by first | with_reducible assumption | omega | assumption, ?_⟩
    exact .inl ⟨(), trivial, rfl, rfl, rfl⟩
abbrev o34b (g : List Int) (w : List Pr) : List Out :=
  [.mk Unit .ret [4, 5] (fun _ => ¬ liP g w) (fun _ => [.bool false, I 0]) (fun _ => .nil) (fun _ => []),
   .mk Unit (.exit 2) [] (fun _ => liP g w) (fun _ => []) (fun _ => .nil) (fun _ => [])]
theorem simp34b : allSimpleM none1 (loopAt Tryd.f34 1) = true := by kernel_rfl
theorem lp34b (g : List Int) (w : List Pr) (q : Room) (hg : Gr g) (h2 : rok w q) (hw : wOKs w) (h6 : w.length ≤ 6) :
    LoopS (En6 [c67.to, c69.to, c70.to, c68.to, c71.to]) (loopAt Tryd.f34 1) 76 [1, 6, 46, 47, 48] [pzc w q, I (dnN w w.length : Nat), cl34 g, I (clV g).length, I 0] .nil (o34b g w) := by
  have hR : Rests (En6 [c67.to, c69.to, c70.to, c68.to, c71.to]) none1 := rests mixed (.pure _ (.pure _ (.pure _ (.pure _ (.pure _ .nil)))))
  have hlen : (clV g).length ≤ 64 := (clq_nm hg).2.2
  refine loop_s hR simp34b none (by intro _ h; cases h) (fun i vs h => h = .nil ∧ vs = [pzc w q, I (dnN w w.length : Nat), cl34 g, I (clV g).length, I (i : Nat)] ∧ ∀ t, t < i → pzS g w t w.length ≤ (dnN w w.length : Nat)) (clV g).length ⟨rfl, rfl, fun t ht => absurd ht (Nat.not_lt_zero _)⟩ (by intro _ h; cases h) ?_
  rintro i vs h hi ⟨rfl, rfl, ha⟩
  by_cases hz : (i : Int) < (clV g).length
  · have hz' : i < (clV g).length := by omega
    have hr := rok_idx (rn_rok (clV g)) hz'
    have lpi := lp34i g w q hg h2 hw h6 i hz'
    have ev0 : IntKind.i64.wrap ((i : Int) + 1) = ((i + 1 : Nat) : Int) := by
      have : (i : Int) + 1 = ((i + 1 : Nat) : Int) := by omega
      rw [this]; exact i_wrap (by omega)
    by_cases hc : ((dnN w w.length : Nat) : Int) < pzS g w i w.length
    · have hn : ¬ liP g w := fun h => by have := h i hz'; omega
      refine ⟨[Ans.o (Orc.b true), Ans.o (Orc.val 50 (AV.cptr (ints (List.drop i (clV g)))) H.nil), Ans.o (Orc.val 51 (I ((clV g).getD i i0)) H.nil), Ans.loop [1, 6, 10, 11, 46, 47, 48, 52, 53, 54] [Out.mk Unit (AX.exit 4) [1, 6, 11, 46, 47, 48] (fun x => True) (fun x => [pzc w q, I (↑(dnN w w.length) : Int), I (pzS g w i w.length), cl34 g, I (↑(clV g).length : Int), I (↑i : Int)]) (fun x => H.nil) fun y => [Ans.o (Orc.b true)]]], fun u => of_eq ((↑i : Int) < (↑(clV g).length : Int) ∧ aIndexAddr Tryd.prog 22 (ls (clV g) (rn (clV g))) (I (↑i : Int)) = some (AV.cptr (ints (List.drop i (clV g)))) ∧ aLoad Tryd.prog 3 (ints (List.drop i (clV g))) = some (I ((clV g).getD i i0)) ∧ LoopS (En6 [c67.to, c69.to, c70.to, c68.to, c71.to]) (loopAt Tryd.f34 2) 76 [1, 6, 10, 11, 46, 47, 48, 52, 53, 54] [AV.sl (pairsA w) w.length q.wk, I (↑(dnN w w.length) : Int), I ((clV g).getD i i0), I 0, ls (clV g) (rn (clV g)), I (↑(clV g).length : Int), I (↑i : Int), AV.sl (pairsA w) w.length q.wk, I (↑w.length : Int), I 0] (H.mk [] [] []) [Out.mk Unit (AX.exit 4) [1, 6, 11, 46, 47, 48] (fun x => True) (fun x => [pzc w q, I (↑(dnN w w.length) : Int), I (pzS g w i w.length), cl34 g, I (↑(clV g).length : Int), I (↑i : Int)]) (fun x => H.nil) fun y => [Ans.o (Orc.b true)]] ∧ (∀ (y : Unit), True → ∀ (u : Nat → AV), (↑(dnN w w.length) : Int) < pzS g w i w.length ∧ (76 : Nat) = (76 : Nat) ∧ hits [Out.mk Unit AX.ret [4, 5] (fun x => ¬liP g w) (fun x => [AV.bool false, I 0]) (fun x => H.nil) fun x => [], Out.mk Unit (AX.exit 2) [] (fun x => liP g w) (fun x => []) (fun x => H.nil) fun x => []] AX.ret [u (0 : Nat), AV.sl (pairsA w) w.length q.wk, u (2 : Nat), u (3 : Nat), AV.bool false, I 0, I (↑(dnN w w.length) : Int), u (7 : Nat), u (8 : Nat), u (9 : Nat), u (10 : Nat), I (pzS g w i w.length), u (12 : Nat), u (13 : Nat), u (14 : Nat), u (15 : Nat), u (16 : Nat), u (17 : Nat), u (18 : Nat), u (19 : Nat), u (20 : Nat), u (21 : Nat), u (22 : Nat), u (23 : Nat), u (24 : Nat), u (25 : Nat), u (26 : Nat), u (27 : Nat), u (28 : Nat), u (29 : Nat), u (30 : Nat), u (31 : Nat), u (32 : Nat), u (33 : Nat), u (34 : Nat), u (35 : Nat), u (36 : Nat), u (37 : Nat), u (38 : Nat), u (39 : Nat), u (40 : Nat), u (41 : Nat), u (42 : Nat), u (43 : Nat), u (44 : Nat), u (45 : Nat), ls (clV g) (rn (clV g)), I (↑(clV g).length : Int), I (↑i : Int), u (49 : Nat), u (50 : Nat), u (51 : Nat), u (52 : Nat), u (53 : Nat), u (54 : Nat), u (55 : Nat), u (56 : Nat), u (57 : Nat), u (58 : Nat), u (59 : Nat), u (60 : Nat), u (61 : Nat), u (62 : Nat), u (63 : Nat), u (64 : Nat), u (65 : Nat), u (66 : Nat), u (67 : Nat), u (68 : Nat), u (69 : Nat), u (70 : Nat), u (71 : Nat), I (pzS g w i w.length), I (↑(dnN w w.length) : Int), AV.bool true, u (75 : Nat)] (H.mk [] [] [])) ∧ True) (by kernel_rfl) ?_⟩
      refine ⟨by first | with_reducible assumption | omega | assumption, ?_⟩
      refine ⟨by first | exact ix_ints (by kernel_rfl) (by omega) (by assumption) | exact ix_ints (by kernel_rfl) (by omega) (rok_idx (by assumption) (by omega)), ?_⟩
      refine ⟨by first | exact ld_ints (by kernel_rfl) (by kernel_rfl) (by omega) | exact ldm_ints (by kernel_rfl) (by kernel_rfl) (by first | omega | (simp; omega)), ?_⟩
      refine ⟨lpi, ?_⟩
      refine And.intro ?_ ?_
      · skip
        intro y
        intro w1
        intro u
        refine ⟨by first | with_reducible assumption | omega | assumption, ?_⟩
        refine ⟨by first | with_reducible assumption | omega | assumption, ?_⟩
        exact .inl ⟨(), hn, rfl, rfl, rfl⟩
      · skip
        trivial
    · have hc : pzS g w i w.length ≤ (dnN w w.length : Nat) := by omega
      have hk := all_succ (q := fun t => pzS g w t w.length ≤ (dnN w w.length : Nat)) ha hc
      refine ⟨[Ans.o (Orc.b true), Ans.o (Orc.val 50 (AV.cptr (ints (List.drop i (clV g)))) H.nil), Ans.o (Orc.val 51 (I ((clV g).getD i i0)) H.nil), Ans.loop [1, 6, 10, 11, 46, 47, 48, 52, 53, 54] [Out.mk Unit (AX.exit 4) [1, 6, 11, 46, 47, 48] (fun x => True) (fun x => [pzc w q, I (↑(dnN w w.length) : Int), I (pzS g w i w.length), cl34 g, I (↑(clV g).length : Int), I (↑i : Int)]) (fun x => H.nil) fun y => [Ans.o (Orc.b false), Ans.o (Orc.val 75 (I (↑(i + (1 : Nat)) : Int)) H.nil)]]], fun u => of_eq ((↑i : Int) < (↑(clV g).length : Int) ∧ aIndexAddr Tryd.prog 22 (ls (clV g) (rn (clV g))) (I (↑i : Int)) = some (AV.cptr (ints (List.drop i (clV g)))) ∧ aLoad Tryd.prog 3 (ints (List.drop i (clV g))) = some (I ((clV g).getD i i0)) ∧ LoopS (En6 [c67.to, c69.to, c70.to, c68.to, c71.to]) (loopAt Tryd.f34 2) 76 [1, 6, 10, 11, 46, 47, 48, 52, 53, 54] [AV.sl (pairsA w) w.length q.wk, I (↑(dnN w w.length) : Int), I ((clV g).getD i i0), I 0, ls (clV g) (rn (clV g)), I (↑(clV g).length : Int), I (↑i : Int), AV.sl (pairsA w) w.length q.wk, I (↑w.length : Int), I 0] (H.mk [] [] []) [Out.mk Unit (AX.exit 4) [1, 6, 11, 46, 47, 48] (fun x => True) (fun x => [pzc w q, I (↑(dnN w w.length) : Int), I (pzS g w i w.length), cl34 g, I (↑(clV g).length : Int), I (↑i : Int)]) (fun x => H.nil) fun y => [Ans.o (Orc.b false), Ans.o (Orc.val 75 (I (↑(i + (1 : Nat)) : Int)) H.nil)]] ∧ (∀ (y : Unit), True → ∀ (u : Nat → AV), pzS g w i w.length ≤ (↑(dnN w w.length) : Int) ∧ aBin Tryd.prog BinOp.add (3 : Nat) (I (↑i : Int)) (I 1) = some (I (↑(i + (1 : Nat)) : Int)) ∧ (76 : Nat) = (76 : Nat) ∧ i < (clV g).length ∧ Keep (H.mk [] [] [] = H.mk [] [] [] ∧ [AV.sl (pairsA w) w.length q.wk, I (↑(dnN w w.length) : Int), ls (clV g) (rn (clV g)), I (↑(clV g).length : Int), I (↑(i + (1 : Nat)) : Int)] = [AV.sl (pairsA w) w.length q.wk, I (↑(dnN w w.length) : Int), ls (clV g) (rn (clV g)), I (↑(clV g).length : Int), I (↑(i + (1 : Nat)) : Int)] ∧ ∀ (t : Nat), t < i + (1 : Nat) → pzS g w t w.length ≤ (↑(dnN w w.length) : Int))) ∧ True) (by kernel_rfl) ?_⟩
      refine ⟨by first | with_reducible assumption | omega | assumption, ?_⟩
      refine ⟨by first | exact ix_ints (by kernel_rfl) (by omega) (by assumption) | exact ix_ints (by kernel_rfl) (by omega) (rok_idx (by assumption) (by omega)), ?_⟩
      refine ⟨by first | exact ld_ints (by kernel_rfl) (by kernel_rfl) (by omega) | exact ldm_ints (by kernel_rfl) (by kernel_rfl) (by first | omega | (simp; omega)), ?_⟩
      refine ⟨lpi, ?_⟩
      refine And.intro ?_ ?_
      · skip
        intro y
        intro w1
        intro u
        refine ⟨by first | with_reducible assumption | omega | assumption, ?_⟩
        refine ⟨told_add (by with_reducible assumption), ?_⟩
        refine ⟨by first | with_reducible assumption | omega | assumption, ?_⟩
        refine ⟨by first | with_reducible assumption | omega | assumption, ?_⟩
        exact ⟨rfl, rfl, hk⟩
      · skip
        trivial
  · have hz : ((clV g).length : Int) ≤ i := by omega
    have hk : liP g w := fun t ht => ha t (by omega)
    refine ⟨[Ans.o (Orc.b false)], fun u => of_eq ((↑(clV g).length : Int) ≤ (↑i : Int) ∧ (76 : Nat) = (76 : Nat) ∧ hits [Out.mk Unit AX.ret [4, 5] (fun x => ¬liP g w) (fun x => [AV.bool false, I 0]) (fun x => H.nil) fun x => [], Out.mk Unit (AX.exit 2) [] (fun x => liP g w) (fun x => []) (fun x => H.nil) fun x => []] (AX.exit 2) [u (0 : Nat), AV.sl (pairsA w) w.length q.wk, u (2 : Nat), u (3 : Nat), u (4 : Nat), u (5 : Nat), I (↑(dnN w w.length) : Int), u (7 : Nat), u (8 : Nat), u (9 : Nat), u (10 : Nat), u (11 : Nat), u (12 : Nat), u (13 : Nat), u (14 : Nat), u (15 : Nat), u (16 : Nat), u (17 : Nat), u (18 : Nat), u (19 : Nat), u (20 : Nat), u (21 : Nat), u (22 : Nat), u (23 : Nat), u (24 : Nat), u (25 : Nat), u (26 : Nat), u (27 : Nat), u (28 : Nat), u (29 : Nat), u (30 : Nat), u (31 : Nat), u (32 : Nat), u (33 : Nat), u (34 : Nat), u (35 : Nat), u (36 : Nat), u (37 : Nat), u (38 : Nat), u (39 : Nat), u (40 : Nat), u (41 : Nat), u (42 : Nat), u (43 : Nat), u (44 : Nat), u (45 : Nat), ls (clV g) (rn (clV g)), I (↑(clV g).length : Int), I (↑i : Int), AV.bool false, u (50 : Nat), u (51 : Nat), u (52 : Nat), u (53 : Nat), u (54 : Nat), u (55 : Nat), u (56 : Nat), u (57 : Nat), u (58 : Nat), u (59 : Nat), u (60 : Nat), u (61 : Nat), u (62 : Nat), u (63 : Nat), u (64 : Nat), u (65 : Nat), u (66 : Nat), u (67 : Nat), u (68 : Nat), u (69 : Nat), u (70 : Nat), u (71 : Nat), u (72 : Nat), u (73 : Nat), u (74 : Nat), u (75 : Nat)] (H.mk [] [] [])) (by kernel_rfl) ?_⟩
    refine ⟨by first | with_reducible assumption | omega | assumption, ?_⟩
    refine ⟨by first | with_reducible assumption | omega | assumption, ?_⟩
    exact .inr (.inl ⟨(), hk, rfl, rfl, rfl⟩)
end Go.Proofs.Sur
end
section
set_option maxHeartbeats 4000000
set_option maxRecDepth 100000
namespace Go.Proofs.Sur
open Go Go.VM

abbrev liG (g : List Int) (w : List Pr) : Prop := Gr g ∧ w.length = g.length ∧ wOKs w
open Classical in
noncomputable def liE (g : List Int) (w : List Pr) : Int := if liG g w then 0 else 2
open Classical in
noncomputable def liB (g : List Int) (w : List Pr) : Bool := decide (liG g w ∧ liP g w)
theorem liB_t {g : List Int} {w : List Pr} (h : liG g w ∧ liP g w) : liB g w = true := by simp only [liB, decide_eq_true_eq]; exact h
theorem liB_f {g : List Int} {w : List Pr} (h : ¬ (liG g w ∧ liP g w)) : liB g w = false := by simp only [liB, decide_eq_false_iff_not]; exact h
theorem ok34 : FokM Tryd.prog none1 34 Tryd.f34 := ⟨mixed, by kernel_rfl, by kernel_rfl, by kernel_rfl, by kernel_rfl⟩
theorem r34 (g : List Int) (r : Room) (w : List Pr) (q : Room) (h1 : lim g.length ∧ rok g r) (h2 : lim w.length ∧ rok w q) : Body (En6 [c67.to, c69.to, c70.to, c68.to, c71.to]) none1 Tryd.f34 [ls g r.wk, pz w q.wk] .nil (.tup [.bool (liB g w), I (liE g w)], .nil) := by
  have p67 : lim g.length ∧ rok g r.wk := ⟨h1.1, by simpa using h1.2⟩
  have p69 : lim w.length ∧ rok w q.wk := ⟨h2.1, by simpa using h2.2⟩
  by_cases hg : Gr g
  · have b67 := grB_t hg
    have p68 : Gr g ∧ rok g r.wk := ⟨hg, p67.2⟩
    by_cases hl : w.length = g.length
    · have hl' : (w.length : Int) = (g.length : Int) := by omega
      by_cases hw : wOKs w
      · have b69 := wkB_t hw
        have e : liE g w = 0 := if_pos ⟨hg, hl, hw⟩
        have h6 : w.length ≤ 6 := by rw [hl]; exact hg.1.2
        have lpa := lp34a g r w q h2.2 hw h6
        have lpb := lp34b g w q hg h2.2 hw h6
        rw [e]
        refine body_s ([Ans.o (Orc.val 15 (AV.bool true) (H.mk [] [] [])), Ans.o (Orc.b false), Ans.o (Orc.val 26 (AV.bool true) (H.mk [] [] [])), Ans.loop [0, 1, 6, 29, 30, 31] [Out.mk Unit (AX.exit 0) [0, 1, 6] (fun x => True) (fun x => [ls g r.wk, pzc w q, I (↑(dnN w w.length) : Int)]) (fun x => H.nil) fun y => [Ans.o (Orc.val 46 (ls (clV g) (rn (clV g))) (H.mk [] [] [])), Ans.loop [1, 6, 46, 47, 48] [Out.mk Unit AX.ret [4, 5] (fun x => ¬liP g w) (fun x => [AV.bool false, I 0]) (fun x => H.nil) fun y => [], Out.mk Unit (AX.exit 2) [] (fun x => liP g w) (fun x => []) (fun x => H.nil) fun y => []]]]]) (aCall (Sof [c67.to, c69.to, c70.to, c68.to, c71.to]) (AV.fn (Fn.func 67) [] []) [ls g r.wk] (H.mk [] [] []) = some (AV.bool true, H.mk [] [] []) ∧ (↑w.length : Int) = (↑g.length : Int) ∧ aCall (Sof [c67.to, c69.to, c70.to, c68.to, c71.to]) (AV.fn (Fn.func 69) [] []) [AV.sl (pairsA w) w.length q.wk] (H.mk [] [] []) = some (AV.bool true, H.mk [] [] []) ∧ LoopS (En6 [c67.to, c69.to, c70.to, c68.to, c71.to]) (loopAt Tryd.f34 0) 76 [0, 1, 6, 29, 30, 31] [ls g r.wk, AV.sl (pairsA w) w.length q.wk, I 1, AV.sl (pairsA w) w.length q.wk, I (↑w.length : Int), I 0] (H.mk [] [] []) [Out.mk Unit (AX.exit 0) [0, 1, 6] (fun x => True) (fun x => [ls g r.wk, pzc w q, I (↑(dnN w w.length) : Int)]) (fun x => H.nil) fun y => [Ans.o (Orc.val 46 (ls (clV g) (rn (clV g))) (H.mk [] [] [])), Ans.loop [1, 6, 46, 47, 48] [Out.mk Unit AX.ret [4, 5] (fun x => ¬liP g w) (fun x => [AV.bool false, I 0]) (fun x => H.nil) fun y => [], Out.mk Unit (AX.exit 2) [] (fun x => liP g w) (fun x => []) (fun x => H.nil) fun y => []]]] ∧ (∀ (y : Unit), True → ∀ (u : Nat → AV), aCall (Sof [c67.to, c69.to, c70.to, c68.to, c71.to]) (AV.fn (Fn.func 68) [] []) [ls g r.wk] (H.mk [] [] []) = some (ls (clV g) (rn (clV g)), H.mk [] [] []) ∧ LoopS (En6 [c67.to, c69.to, c70.to, c68.to, c71.to]) (loopAt Tryd.f34 1) 76 [1, 6, 46, 47, 48] [AV.sl (pairsA w) w.length q.wk, I (↑(dnN w w.length) : Int), ls (clV g) (rn (clV g)), I (↑(clV g).length : Int), I 0] (H.mk [] [] []) [Out.mk Unit AX.ret [4, 5] (fun x => ¬liP g w) (fun x => [AV.bool false, I 0]) (fun x => H.nil) fun y => [], Out.mk Unit (AX.exit 2) [] (fun x => liP g w) (fun x => []) (fun x => H.nil) fun y => []] ∧ (∀ (y : Unit), ¬liP g w → ∀ (u : Nat → AV), (AV.tup [AV.bool false, I 0], H.mk [] [] []) = (AV.tup [AV.bool (liB g w), I 0], H.mk [] [] [])) ∧ (∀ (y : Unit), (∀ (i : Nat), i < (clV g).length → pzS g w i w.length ≤ (↑(dnN w w.length) : Int)) → ∀ (u : Nat → AV), (AV.tup [AV.bool true, I 0], H.mk [] [] []) = (AV.tup [AV.bool (liB g w), I 0], H.mk [] [] [])) ∧ True) ∧ True) (by kernel_rfl) ?_
        refine ⟨acall_b (acall_hit (c := c67.to) (g, r.wk) _ rfl p67) b67, ?_⟩
        refine ⟨by first | with_reducible assumption | omega | assumption, ?_⟩
        refine ⟨acall_b (acall_hit (c := c69.to) (w, q.wk) _ rfl p69) b69, ?_⟩
        refine ⟨lpa, ?_⟩
        refine And.intro ?_ ?_
        · skip
          intro y
          intro w1
          intro u
          refine ⟨acall_hit (c := c68.to) (g, r.wk) _ rfl p68, ?_⟩
          refine ⟨lpb, ?_⟩
          refine And.intro ?_ ?_
          · skip
            intro y
            intro w4
            intro u
            first | exact congrArg (fun b => (AV.tup [AV.bool b, I 0], H.nil)) (liB_f (fun h => (by with_reducible assumption : ¬ liP g w) h.2)).symm | exact congrArg (fun b => (AV.tup [AV.bool b, I 0], H.nil)) (liB_t ⟨⟨hg, hl, hw⟩, by with_reducible assumption⟩).symm
          · skip
            refine And.intro ?_ ?_
            · skip
              intro y
              intro w4
              intro u
              first | exact congrArg (fun b => (AV.tup [AV.bool b, I 0], H.nil)) (liB_f (fun h => (by with_reducible assumption : ¬ liP g w) h.2)).symm | exact congrArg (fun b => (AV.tup [AV.bool b, I 0], H.nil)) (liB_t ⟨⟨hg, hl, hw⟩, by with_reducible assumption⟩).symm
            · skip
              trivial
        · skip
          trivial
      · have b69 := wkB_f hw
        have e : liE g w = 2 := if_neg (fun h => hw h.2.2)
        rw [e, liB_f (fun h => hw h.1.2.2)]
        refine body_s ([Ans.o (Orc.val 15 (AV.bool true) (H.mk [] [] [])), Ans.o (Orc.b false), Ans.o (Orc.val 26 (AV.bool false) (H.mk [] [] []))]) (aCall (Sof [c67.to, c69.to, c70.to, c68.to, c71.to]) (AV.fn (Fn.func 67) [] []) [ls g r.wk] (H.mk [] [] []) = some (AV.bool true, H.mk [] [] []) ∧ (↑w.length : Int) = (↑g.length : Int) ∧ aCall (Sof [c67.to, c69.to, c70.to, c68.to, c71.to]) (AV.fn (Fn.func 69) [] []) [AV.sl (pairsA w) w.length q.wk] (H.mk [] [] []) = some (AV.bool false, H.mk [] [] []) ∧ (AV.tup [AV.bool false, I 2], H.mk [] [] []) = (AV.tup [AV.bool false, I 2], H.mk [] [] [])) (by kernel_rfl) ?_
        refine ⟨acall_b (acall_hit (c := c67.to) (g, r.wk) _ rfl p67) b67, ?_⟩
        refine ⟨by first | with_reducible assumption | omega | assumption, ?_⟩
        refine ⟨acall_b (acall_hit (c := c69.to) (w, q.wk) _ rfl p69) b69, ?_⟩
        first | with_reducible rfl | (refine bleaf_t ?_; omega) | (refine bleaf_f ?_; omega) | (refine ileaf ?_; omega) | rfl | (exfalso; omega)
    · have hl' : (w.length : Int) ≠ (g.length : Int) := by omega
      have e : liE g w = 2 := if_neg (fun h => hl h.2.1)
      rw [e, liB_f (fun h => hl h.1.2.1)]
      refine body_s ([Ans.o (Orc.val 15 (AV.bool true) (H.mk [] [] [])), Ans.o (Orc.b true)]) (aCall (Sof [c67.to, c69.to, c70.to, c68.to, c71.to]) (AV.fn (Fn.func 67) [] []) [ls g r.wk] (H.mk [] [] []) = some (AV.bool true, H.mk [] [] []) ∧ (↑w.length : Int) ≠ (↑g.length : Int) ∧ (AV.tup [AV.bool false, I 2], H.mk [] [] []) = (AV.tup [AV.bool false, I 2], H.mk [] [] [])) (by kernel_rfl) ?_
      refine ⟨acall_b (acall_hit (c := c67.to) (g, r.wk) _ rfl p67) b67, ?_⟩
      refine ⟨by first | with_reducible assumption | omega | assumption, ?_⟩
      first | with_reducible rfl | (refine bleaf_t ?_; omega) | (refine bleaf_f ?_; omega) | (refine ileaf ?_; omega) | rfl | (exfalso; omega)
  · have b67 := grB_f hg
    have e : liE g w = 2 := if_neg (fun h => hg h.1)
    rw [e, liB_f (fun h => hg h.1.1)]
    refine body_s ([Ans.o (Orc.val 15 (AV.bool false) (H.mk [] [] []))]) (aCall (Sof [c67.to, c69.to, c70.to, c68.to, c71.to]) (AV.fn (Fn.func 67) [] []) [ls g r.wk] (H.mk [] [] []) = some (AV.bool false, H.mk [] [] []) ∧ (AV.tup [AV.bool false, I 2], H.mk [] [] []) = (AV.tup [AV.bool false, I 2], H.mk [] [] [])) (by kernel_rfl) ?_
    refine ⟨acall_b (acall_hit (c := c67.to) (g, r.wk) _ rfl p67) b67, ?_⟩
    first | with_reducible rfl | (refine bleaf_t ?_; omega) | (refine bleaf_f ?_; omega) | (refine ileaf ?_; omega) | rfl | (exfalso; omega)
noncomputable def c34 : PCtr Tryd.prog := sctr ok34 (X := List Int × Room × List Pr × Room) (fun x => [ls x.1 x.2.1, pz x.2.2.1 x.2.2.2]) (fun x => (lim x.1.length ∧ rok x.1 x.2.1) ∧ lim x.2.2.1.length ∧ rok x.2.2.1 x.2.2.2) (fun x => .tup [.bool (liB x.1 x.2.2.1), I (liE x.1 x.2.2.1)])
  (by intro x y e _ _; simp at e; simp [e]) (fun x => by simp [AV.bnds, AV.bnd, AV.wk, rm_wk_bnd]) (fun _ => rfl) (fun x hx => ⟨_, _, _, .pure c67 (.pure c69 (.pure c70 (.pure c68 (.pure c71 .nil)))), r34 x.1 x.2.1 x.2.2.1 x.2.2.2 hx.1 hx.2⟩)
end Go.Proofs.Sur
end
section
set_option maxHeartbeats 4000000
set_option maxRecDepth 100000
namespace Go.Proofs.Sur
open Go Go.VM

theorem ok35 : FokM Tryd.prog none1 35 Tryd.f35 := ⟨mixed, by kernel_rfl, by kernel_rfl, by kernel_rfl, by kernel_rfl⟩
theorem r35 (x : Pr) (l : List Pr) (n : Nat) (hn : (x :: l).length = n) (hb : n ≤ 1000000000) : Body (En6 []) none1 Tryd.f35 [.sl (pairsA (x :: l)) n .no] .nil (.sl (pairsA (x :: l)) n (.tok 0 2), ⟨[], [n], []⟩) := by
  have h0 : n ≠ 0 := by subst hn; simp
  refine body_s ([Ans.o (Orc.val 7 (AV.sl (pairsA (x :: l)) n (Room.tok 0 2)) (H.mk [] [n] []))]) (aAppend Tryd.prog 42 (42 : Nat) (AV.sl [] (0 : Nat) Room.full) (AV.sl (pairsA (x :: l)) n Room.no) (H.mk [] [] []) = some (AV.sl (pairsA (x :: l)) n (Room.tok 0 2), H.mk [] [n] []) ∧ leave (Base.mk H.nil.blk.length H.nil.toks.length H.nil.maps.length) (AV.sl (pairsA (x :: l)) n (Room.tok 0 2)) (H.mk [] [n] []) = (AV.sl (pairsA (x :: l)) n (Room.tok 0 2), H.mk [] [n] [])) (by kernel_rfl) ?_
  refine ⟨app_new2 (l := x :: l) (by kernel_rfl) h0 (by simpa using hn) (by omega), ?_⟩
  exact leave_pairs (x :: l) _
theorem r35z : Body (En6 []) none1 Tryd.f35 [.sl (pairsA []) 0 .no] .nil (.sl [] 0 .full, .nil) := by
  refine body_s ([]) ((AV.sl [] (0 : Nat) Room.full, H.mk [] [] []) = (AV.sl [] (0 : Nat) Room.full, H.mk [] [] [])) (by kernel_rfl) ?_
  first | with_reducible rfl | (refine bleaf_t ?_; omega) | (refine bleaf_f ?_; omega) | (refine ileaf ?_; omega) | rfl | (exfalso; omega)
theorem r35e : Body (En6 []) none1 Tryd.f35 [.sl (pairsA []) 0 .e] .nil (.sl [] 0 .full, .nil) := by
  refine body_s ([]) ((AV.sl [] (0 : Nat) Room.full, H.mk [] [] []) = (AV.sl [] (0 : Nat) Room.full, H.mk [] [] [])) (by kernel_rfl) ?_
  first | with_reducible rfl | (refine bleaf_t ?_; omega) | (refine bleaf_f ?_; omega) | (refine ileaf ?_; omega) | rfl | (exfalso; omega)
theorem r35n : Body (En6 []) none1 Tryd.f35 [.sl (pairsA []) 0 .nil] .nil (.sl [] 0 .nil, .nil) := by
  refine body_s ([]) ((AV.sl [] (0 : Nat) Room.nil, H.mk [] [] []) = (AV.sl [] (0 : Nat) Room.nil, H.mk [] [] [])) (by kernel_rfl) ?_
  first | with_reducible rfl | (refine bleaf_t ?_; omega) | (refine bleaf_f ?_; omega) | (refine ileaf ?_; omega) | rfl | (exfalso; omega)
end Go.Proofs.Sur
end
