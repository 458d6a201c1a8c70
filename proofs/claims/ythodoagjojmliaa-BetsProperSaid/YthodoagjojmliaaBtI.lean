/- Layer 9: the least common multiple, by the reference. -/
import Derived.Test.YthodoagjojmliaaBtH
import Derived.KernelRfl
set_option linter.unusedSimpArgs false
set_option linter.unusedVariables false
set_option linter.unnecessarySimpa false
set_option maxHeartbeats 4000000
set_option maxRecDepth 100000
namespace Go.Proofs.Bts
open Go Go.VM

theorem lw_id {a b : Int} (ha : 0 ≤ a) (hb : 1 ≤ b) : (lwN a b == a && (lwD a b == b && true)) = true ↔ gcI a b = 1 := by
  have e : abI a = a := by simp only [abI]; split <;> omega
  have hg := gcd1 a b hb
  simp only [lwN, lwD, e, Bool.and_true, Bool.and_eq_true, beq_iff_eq]
  constructor
  · rintro ⟨_, h⟩
    rcases Int.lt_or_le 1 (gcI a b) with h1 | h1
    · exfalso
      rw [Int.tdiv_eq_ediv_of_nonneg (by omega)] at h
      have h2 : b * 2 ≤ b * gcI a b := Int.mul_le_mul_of_nonneg_left (by omega) (by omega)
      have := Int.ediv_lt_of_lt_mul (a := b) (b := b) (c := gcI a b) (by omega) (by omega)
      omega
    · omega
  · intro h
    rw [h]
    simp
abbrev okM (p : Pr) : Prop := (1 ≤ p.2 ∧ p.2 ≤ 10000000000) ∧ 0 ≤ p.1 ∧ gcI p.1 p.2 = 1
abbrev okMs (l : List Pr) : Prop := ∀ i, i < l.length → okM (l.getD i pair0)
abbrev mOK (l : List Pr) : Prop := okMs l ∧ dn l l.length ≤ 10000000000
open Classical in
noncomputable def mul (l : List Pr) : Nat := if mOK l then dn l l.length else 0
theorem dn_pos' {l : List Pr} {j : Nat} (h : ∀ i, i < j → okM (l.getD i pair0)) : 1 ≤ dn l j := lc_pos fun i hi => by have := (h i hi).1; omega
theorem dn_mono' {l : List Pr} (h : okMs l) {j k : Nat} (hjk : j ≤ k) (hk : k ≤ l.length) : dn l j ≤ dn l k := Nat.le_of_dvd (dn_pos' fun i hi => h i (by omega)) (lc_mono hjk)
/-- how often its divisor goes into it -/
abbrev tM (l : List Pr) (j : Nat) : Int := ((dn l j : Nat) : Int).tdiv (gcI (dn l j : Nat) (l.getD j pair0).2)
theorem tM_ok {l : List Pr} {j : Nat} (hp : 1 ≤ dn l j) (hd : 1 ≤ (l.getD j pair0).2) : (1 ≤ tM l j ∧ tM l j ≤ (dn l j : Nat)) ∧ tM l j * (l.getD j pair0).2 = (dn l (j + 1) : Nat) := by
  obtain ⟨d, hd'⟩ : ∃ d : Nat, (l.getD j pair0).2 = d := ⟨(l.getD j pair0).2.toNat, by omega⟩
  have e : tM l j = ((dn l j / Nat.gcd (dn l j) d : Nat) : Int) := by
    show ((dn l j : Nat) : Int).tdiv (gcI (dn l j : Nat) (l.getD j pair0).2) = _; rw [hd', gcI_nat, ← Int.ofNat_tdiv]
  have hd1 : 1 ≤ d := by omega
  have hg : 0 < Nat.gcd (dn l j) d := Nat.gcd_pos_of_pos_left _ hp
  have e2 : (l.getD j pair0).2.toNat = d := by rw [hd']; rfl
  refine ⟨⟨?_, ?_⟩, ?_⟩
  · rw [e]
    have := Nat.div_pos (Nat.le_of_dvd hp (Nat.gcd_dvd_left (dn l j) d)) hg
    omega
  · rw [e]
    have := Nat.div_le_self (dn l j) (Nat.gcd (dn l j) d)
    omega
  · rw [e, hd', ← Int.natCast_mul, dn_succ, e2]
    congr 1
    have h2 := Nat.gcd_mul_lcm (dn l j) d
    have h3 : Nat.gcd (dn l j) d * (dn l j / Nat.gcd (dn l j) d * d) = dn l j * d := by
      rw [← Nat.mul_assoc, Nat.mul_div_cancel' (Nat.gcd_dvd_left (dn l j) d)]
    exact Nat.eq_of_mul_eq_mul_left hg (h3.trans h2.symm)
abbrev hP (p : Pr) : H := ⟨[[I p.1, I p.2]], [], []⟩
abbrev o54i (l : List Pr) (r : Room) (m : Int) (p : Pr) (j : Nat) (g : Int) : List Out := [.mk Unit (.exit 2) [3, 5, 6, 8, 9, 10] (fun _ => True) (fun _ => [I m, .ptr 0 0, I g, pz l r, I l.length, I j]) (fun _ => hP p) (fun _ => [])]
theorem simp54i : allSimpleM none1 (loopAt Try.f54 1) = true := by kernel_rfl
theorem lp54i (l : List Pr) (r : Room) (m b : Int) (p : Pr) (i : Nat) (ha : nn6 m) (hb : nn6 b) : LoopS (En6 [c94.to]) (loopAt Try.f54 1) 60 [3, 5, 6, 7, 8, 9, 10] [I m, .ptr 0 0, I m, I b, pz l r, I l.length, I i] (hP p) (o54i l r m p i (gcI m b)) := by
  have hR : Rests (En6 [c94.to]) none1 := rests mixed (.pure _ .nil)
  refine loop_s hR simp54i none (by intro _ h; cases h) (fun j vs H => H = hP p ∧ ∃ x y : Int, vs = [I m, .ptr 0 0, I x, I y, pz l r, I l.length, I i] ∧ nn6 x ∧ nn6 y ∧ gcI x y = gcI m b ∧ y.toNat + j ≤ b.toNat) b.toNat ⟨rfl, m, b, rfl, ha, hb, rfl, by omega⟩ (by intro _ h; cases h) ?_
  rintro j vs H hj ⟨rfl, x, y, rfl, hx, hy, hg, hle⟩
  by_cases hz : y = 0
  · have e : x = gcI m b := by
      rw [← hg, hz]
      have hx : 0 ≤ x := hx
      show x = ((Nat.gcd x.toNat 0 : Nat) : Int)
      rw [Nat.gcd_zero_right]; omega
    subst hz
    rw [← e]
    refine ⟨[Ans.o Orc.dflt], fun u => of_eq ((60 : Nat) = (60 : Nat) ∧ hits [Out.mk Unit (AX.exit (2 : Nat)) [(3 : Nat), (5 : Nat), (6 : Nat), (8 : Nat), (9 : Nat), (10 : Nat)] (fun x => True) (fun x_1 => [I m, AV.ptr 0 0, I x, pz l r, I (↑l.length : Int), I (↑i : Int)]) (fun x => hP p) fun x => []] (AX.exit (2 : Nat)) [u (0 : Nat), u (1 : Nat), u (2 : Nat), I m, u (4 : Nat), AV.ptr 0 0, I x, I 0, AV.sl (pairsA l) l.length r, I (↑l.length : Int), I (↑i : Int), u (11 : Nat), u (12 : Nat), u (13 : Nat), u (14 : Nat), u (15 : Nat), u (16 : Nat), u (17 : Nat), u (18 : Nat), u (19 : Nat), u (20 : Nat), u (21 : Nat), u (22 : Nat), u (23 : Nat), u (24 : Nat), u (25 : Nat), u (26 : Nat), u (27 : Nat), u (28 : Nat), u (29 : Nat), u (30 : Nat), u (31 : Nat), u (32 : Nat), u (33 : Nat), u (34 : Nat), u (35 : Nat), u (36 : Nat), u (37 : Nat), u (38 : Nat), I 0, AV.bool false, u (41 : Nat), u (42 : Nat), u (43 : Nat), u (44 : Nat), u (45 : Nat), u (46 : Nat), u (47 : Nat), u (48 : Nat), u (49 : Nat), u (50 : Nat), u (51 : Nat), u (52 : Nat), u (53 : Nat), u (54 : Nat), u (55 : Nat), u (56 : Nat), u (57 : Nat), u (58 : Nat), u (59 : Nat)] (H.mk [[I p.fst, I p.snd]] [] [])) (by kernel_rfl) ?_⟩
    refine ⟨by first | with_reducible assumption | omega | assumption, ?_⟩
    exact .inl ⟨(), trivial, rfl, rfl, rfl⟩
  · have hz : y ≠ 0 := hz
    have hx : 0 ≤ x := hx
    have hy : 0 ≤ y := hy
    obtain ⟨X, rfl⟩ : ∃ X : Nat, x = X := ⟨x.toNat, by omega⟩
    obtain ⟨Y, rfl⟩ : ∃ Y : Nat, y = Y := ⟨y.toNat, by omega⟩
    have hm : X % Y < Y := Nat.mod_lt _ (by omega)
    have ev0 : (X : Int).tmod (Y : Int) = ((X % Y : Nat) : Int) := by rw [Int.ofNat_tmod]
    have hg2 : gcI (Y : Nat) ((X % Y : Nat) : Int) = gcI m b := by
      rw [← hg]
      show ((Nat.gcd (Y : Int).toNat ((X % Y : Nat) : Int).toNat : Nat) : Int) = ((Nat.gcd (X : Int).toNat (Y : Int).toNat : Nat) : Int)
      rw [Int.toNat_natCast, Int.toNat_natCast, Int.toNat_natCast, Nat.gcd_comm X Y, Nat.gcd_rec Y X, Nat.gcd_comm]
    have h1 : nn6 ((X % Y : Nat) : Int) := Int.natCast_nonneg _
    have h2 : ((X % Y : Nat) : Int).toNat + (j + 1) ≤ b.toNat := by rw [Int.toNat_natCast]; rw [Int.toNat_natCast] at hle; omega
    have h3 : nn6 ((Y : Nat) : Int) := Int.natCast_nonneg _
    refine ⟨[Ans.o (Orc.b true), Ans.o (Orc.val 44 (I (↑(X % Y) : Int)) H.nil)], fun u => of_eq ((↑Y : Int) ≠ (0 : Int) ∧ aBin Try.prog BinOp.rem (3 : Nat) (I (↑X : Int)) (I (↑Y : Int)) = some (I (↑(X % Y) : Int)) ∧ (60 : Nat) = (60 : Nat) ∧ j < b.toNat ∧ Keep (H.mk [[I p.fst, I p.snd]] [] [] = H.mk [[I p.fst, I p.snd]] [] [] ∧ ∃ x y, [I m, AV.ptr 0 0, I (↑Y : Int), I (↑(X % Y) : Int), AV.sl (pairsA l) l.length r, I (↑l.length : Int), I (↑i : Int)] = [I m, AV.ptr 0 0, I x, I y, AV.sl (pairsA l) l.length r, I (↑l.length : Int), I (↑i : Int)] ∧ nn6 x ∧ nn6 y ∧ gcI x y = gcI m b ∧ y.toNat + (j + (1 : Nat)) ≤ b.toNat)) (by kernel_rfl) ?_⟩
    refine ⟨by first | with_reducible assumption | omega | assumption, ?_⟩
    refine ⟨told_rem (by first | decide | omega) (by with_reducible assumption), ?_⟩
    refine ⟨by first | with_reducible assumption | omega | assumption, ?_⟩
    refine ⟨by first | with_reducible assumption | omega | assumption, ?_⟩
    exact ⟨rfl, _, _, rfl, h3, h1, hg2, h2⟩
abbrev o54 (l : List Pr) : List Out :=
  [.mk (List (List AV)) .ret [2] (fun _ => ¬ mOK l) (fun _ => [I 0]) (fun bs => ⟨bs, [], []⟩) (fun _ => []),
   .mk Unit (.exit 0) [3] (fun _ => mOK l) (fun _ => [I (dn l l.length : Nat)]) (fun _ => .nil) (fun _ => [])]
theorem simp54 : allSimpleM none1 (loopAt Try.f54 0) = true := by kernel_rfl
abbrev pM (l : List Pr) (r : Room) : Prop := l.length ≤ 1000 ∧ rok l r ∧ inR l
theorem lp54 (l : List Pr) (r : Room) (hp : pM l r.wk) :
    LoopS (En6 [c94.to]) (loopAt Try.f54 0) 60 [3, 8, 9, 10] [I 1, pz l r.wk, I l.length, I 0] .nil (o54 l) := by
  have hR : Rests (En6 [c94.to]) none1 := rests mixed (.pure _ .nil)
  refine loop_s hR simp54 (some 0) (by intro nb h; cases h; exact ⟨Nat.zero_le _, Nat.le_refl 0⟩) (fun j vs h => h = .nil ∧ vs = [I (dn l j : Nat), pz l r.wk, I l.length, I (j : Nat)] ∧ (∀ i, i < j → okM (l.getD i pair0)) ∧ dn l j ≤ 10000000000) l.length ⟨rfl, rfl, fun i hi => absurd hi (by omega), by rw [dn_0]; decide⟩ (by rintro nb h j vs h' ⟨rfl, _⟩; cases h; exact Nat.le_refl 0) ?_
  obtain ⟨h1, h3, hR0⟩ := hp
  rintro j vs h hj ⟨rfl, rfl, ha, hD⟩
  by_cases hz : (j : Int) < l.length
  · have hz' : j < l.length := by omega
    have hr := rok_idx h3 hz'
    have ev0 := wj1 (j := j) (by omega)
    have hrg := hR0 j hz'
    have hcl : ∀ v : Int, AV.bnds 0 0 0 [I v, pz l r.wk, I l.length, I (j + 1 : Nat)] = true := fun v => by simp [AV.bnds, AV.bnd, rm_wk_bnd]
    have bad : ∀ (h : ¬ okM (l.getD j pair0)), ¬ mOK l := fun h q => h (q.1 j hz')
    by_cases x1 : (l.getD j pair0).2 < 1
    · have hn := bad (fun h => by have := h.1.1; omega)
      refine ⟨[Ans.o (Orc.b true), Ans.o (Orc.val 12 (AV.cptr (pairsA (List.drop j l))) H.nil), Ans.o (Orc.val 13 (AV.agg [I (l.getD j pair0).fst, I (l.getD j pair0).snd]) H.nil), Ans.o (Orc.b true)], fun u => of_eq ((↑j : Int) < (↑l.length : Int) ∧ aIndexAddr Try.prog (23 : Nat) (AV.sl (pairsA l) l.length r.wk) (I (↑j : Int)) = some (AV.cptr (pairsA (List.drop j l))) ∧ aLoad Try.prog (47 : Nat) (pairsA (List.drop j l)) = some (AV.agg [I (l.getD j pair0).fst, I (l.getD j pair0).snd]) ∧ (l.getD j pair0).snd < (1 : Int) ∧ (60 : Nat) = (60 : Nat) ∧ hits [Out.mk (List (List AV)) AX.ret [(2 : Nat)] (fun x => ¬mOK l) (fun x => [I 0]) (fun bs => H.mk bs [] []) fun x => [], Out.mk Unit (AX.exit (0 : Nat)) [(3 : Nat)] (fun x => mOK l) (fun x => [I (↑(dn l l.length) : Int)]) (fun x => H.nil) fun x => []] AX.ret [u (0 : Nat), u (1 : Nat), I 0, I (↑(dn l j) : Int), u (4 : Nat), AV.ptr 0 0, u (6 : Nat), u (7 : Nat), AV.sl (pairsA l) l.length r.wk, I (↑l.length : Int), I (↑j : Int), AV.bool true, AV.cptr (pairsA (List.drop j l)), AV.agg [I (l.getD j pair0).fst, I (l.getD j pair0).snd], AV.ptr 0 1, I (l.getD j pair0).snd, AV.bool true, AV.bool true, AV.tup [], AV.tup [], AV.tup [], AV.bool true, AV.bool true, AV.tup [], AV.tup [], AV.tup [], AV.bool true, AV.bool true, AV.tup [], AV.tup [], AV.tup [], AV.tup [], AV.tup [], AV.tup [], AV.tup [], AV.bool true, u (36 : Nat), u (37 : Nat), u (38 : Nat), u (39 : Nat), u (40 : Nat), u (41 : Nat), u (42 : Nat), u (43 : Nat), u (44 : Nat), u (45 : Nat), u (46 : Nat), u (47 : Nat), u (48 : Nat), u (49 : Nat), u (50 : Nat), u (51 : Nat), u (52 : Nat), u (53 : Nat), u (54 : Nat), u (55 : Nat), u (56 : Nat), u (57 : Nat), u (58 : Nat), u (59 : Nat)] (H.mk [[I (l.getD j pair0).fst, I (l.getD j pair0).snd]] [] [])) (by kernel_rfl) ?_⟩
      refine ⟨by first | with_reducible assumption | omega | assumption, ?_⟩
      refine ⟨by first | exact ix_pairs (by kernel_rfl) (by omega) (by assumption) | exact ix_pairs (by kernel_rfl) (by omega) (rok_idx (by assumption) (by omega)), ?_⟩
      refine ⟨ld_pairs (by kernel_rfl) (by kernel_rfl) (by kernel_rfl) (by omega), ?_⟩
      refine ⟨by first | with_reducible assumption | omega | assumption, ?_⟩
      refine ⟨by first | with_reducible assumption | omega | assumption, ?_⟩
      exact .inl ⟨_, hn, rfl, rfl, rfl⟩
    have x1 : 1 ≤ (l.getD j pair0).2 := by omega
    by_cases x2 : 10000000000 < (l.getD j pair0).2
    · have hn := bad (fun h => by have := h.1.2; omega)
      refine ⟨[Ans.o (Orc.b true), Ans.o (Orc.val 12 (AV.cptr (pairsA (List.drop j l))) H.nil), Ans.o (Orc.val 13 (AV.agg [I (l.getD j pair0).fst, I (l.getD j pair0).snd]) H.nil), Ans.o (Orc.b false), Ans.o (Orc.b true)], fun u => of_eq ((↑j : Int) < (↑l.length : Int) ∧ aIndexAddr Try.prog (23 : Nat) (AV.sl (pairsA l) l.length r.wk) (I (↑j : Int)) = some (AV.cptr (pairsA (List.drop j l))) ∧ aLoad Try.prog (47 : Nat) (pairsA (List.drop j l)) = some (AV.agg [I (l.getD j pair0).fst, I (l.getD j pair0).snd]) ∧ (1 : Int) ≤ (l.getD j pair0).snd ∧ (10000000000 : Int) < (l.getD j pair0).snd ∧ (60 : Nat) = (60 : Nat) ∧ hits [Out.mk (List (List AV)) AX.ret [(2 : Nat)] (fun x => ¬mOK l) (fun x => [I 0]) (fun bs => H.mk bs [] []) fun x => [], Out.mk Unit (AX.exit (0 : Nat)) [(3 : Nat)] (fun x => mOK l) (fun x => [I (↑(dn l l.length) : Int)]) (fun x => H.nil) fun x => []] AX.ret [u (0 : Nat), u (1 : Nat), I 0, I (↑(dn l j) : Int), u (4 : Nat), AV.ptr 0 0, u (6 : Nat), u (7 : Nat), AV.sl (pairsA l) l.length r.wk, I (↑l.length : Int), I (↑j : Int), AV.bool true, AV.cptr (pairsA (List.drop j l)), AV.agg [I (l.getD j pair0).fst, I (l.getD j pair0).snd], AV.ptr 0 1, I (l.getD j pair0).snd, AV.bool false, AV.bool false, AV.ptr 0 1, I (l.getD j pair0).snd, AV.bool true, AV.bool true, AV.bool true, AV.tup [], AV.tup [], AV.tup [], AV.bool true, AV.bool true, AV.tup [], AV.tup [], AV.tup [], AV.tup [], AV.tup [], AV.tup [], AV.tup [], AV.bool true, u (36 : Nat), u (37 : Nat), u (38 : Nat), u (39 : Nat), u (40 : Nat), u (41 : Nat), u (42 : Nat), u (43 : Nat), u (44 : Nat), u (45 : Nat), u (46 : Nat), u (47 : Nat), u (48 : Nat), u (49 : Nat), u (50 : Nat), u (51 : Nat), u (52 : Nat), u (53 : Nat), u (54 : Nat), u (55 : Nat), u (56 : Nat), u (57 : Nat), u (58 : Nat), u (59 : Nat)] (H.mk [[I (l.getD j pair0).fst, I (l.getD j pair0).snd]] [] [])) (by kernel_rfl) ?_⟩
      refine ⟨by first | with_reducible assumption | omega | assumption, ?_⟩
      refine ⟨by first | exact ix_pairs (by kernel_rfl) (by omega) (by assumption) | exact ix_pairs (by kernel_rfl) (by omega) (rok_idx (by assumption) (by omega)), ?_⟩
      refine ⟨ld_pairs (by kernel_rfl) (by kernel_rfl) (by kernel_rfl) (by omega), ?_⟩
      refine ⟨by first | with_reducible assumption | omega | assumption, ?_⟩
      refine ⟨by first | with_reducible assumption | omega | assumption, ?_⟩
      refine ⟨by first | with_reducible assumption | omega | assumption, ?_⟩
      exact .inl ⟨_, hn, rfl, rfl, rfl⟩
    have x2 : (l.getD j pair0).2 ≤ 10000000000 := by omega
    by_cases x3 : (l.getD j pair0).1 < 0
    · have hn := bad (fun h => by have := h.2.1; omega)
      refine ⟨[Ans.o (Orc.b true), Ans.o (Orc.val 12 (AV.cptr (pairsA (List.drop j l))) H.nil), Ans.o (Orc.val 13 (AV.agg [I (l.getD j pair0).fst, I (l.getD j pair0).snd]) H.nil), Ans.o (Orc.b false), Ans.o (Orc.b false), Ans.o (Orc.b true)], fun u => of_eq ((↑j : Int) < (↑l.length : Int) ∧ aIndexAddr Try.prog (23 : Nat) (AV.sl (pairsA l) l.length r.wk) (I (↑j : Int)) = some (AV.cptr (pairsA (List.drop j l))) ∧ aLoad Try.prog (47 : Nat) (pairsA (List.drop j l)) = some (AV.agg [I (l.getD j pair0).fst, I (l.getD j pair0).snd]) ∧ (1 : Int) ≤ (l.getD j pair0).snd ∧ (l.getD j pair0).snd ≤ (10000000000 : Int) ∧ (l.getD j pair0).fst < (0 : Int) ∧ (60 : Nat) = (60 : Nat) ∧ hits [Out.mk (List (List AV)) AX.ret [(2 : Nat)] (fun x => ¬mOK l) (fun x => [I 0]) (fun bs => H.mk bs [] []) fun x => [], Out.mk Unit (AX.exit (0 : Nat)) [(3 : Nat)] (fun x => mOK l) (fun x => [I (↑(dn l l.length) : Int)]) (fun x => H.nil) fun x => []] AX.ret [u (0 : Nat), u (1 : Nat), I 0, I (↑(dn l j) : Int), u (4 : Nat), AV.ptr 0 0, u (6 : Nat), u (7 : Nat), AV.sl (pairsA l) l.length r.wk, I (↑l.length : Int), I (↑j : Int), AV.bool true, AV.cptr (pairsA (List.drop j l)), AV.agg [I (l.getD j pair0).fst, I (l.getD j pair0).snd], AV.ptr 0 1, I (l.getD j pair0).snd, AV.bool false, AV.bool false, AV.ptr 0 1, I (l.getD j pair0).snd, AV.bool false, AV.bool false, AV.bool false, AV.ptr 0 0, I (l.getD j pair0).fst, AV.bool true, AV.bool true, AV.bool true, AV.tup [], AV.tup [], AV.tup [], AV.tup [], AV.tup [], AV.tup [], AV.tup [], AV.bool true, u (36 : Nat), u (37 : Nat), u (38 : Nat), u (39 : Nat), u (40 : Nat), u (41 : Nat), u (42 : Nat), u (43 : Nat), u (44 : Nat), u (45 : Nat), u (46 : Nat), u (47 : Nat), u (48 : Nat), u (49 : Nat), u (50 : Nat), u (51 : Nat), u (52 : Nat), u (53 : Nat), u (54 : Nat), u (55 : Nat), u (56 : Nat), u (57 : Nat), u (58 : Nat), u (59 : Nat)] (H.mk [[I (l.getD j pair0).fst, I (l.getD j pair0).snd]] [] [])) (by kernel_rfl) ?_⟩
      refine ⟨by first | with_reducible assumption | omega | assumption, ?_⟩
      refine ⟨by first | exact ix_pairs (by kernel_rfl) (by omega) (by assumption) | exact ix_pairs (by kernel_rfl) (by omega) (rok_idx (by assumption) (by omega)), ?_⟩
      refine ⟨ld_pairs (by kernel_rfl) (by kernel_rfl) (by kernel_rfl) (by omega), ?_⟩
      refine ⟨by first | with_reducible assumption | omega | assumption, ?_⟩
      refine ⟨by first | with_reducible assumption | omega | assumption, ?_⟩
      refine ⟨by first | with_reducible assumption | omega | assumption, ?_⟩
      refine ⟨by first | with_reducible assumption | omega | assumption, ?_⟩
      exact .inl ⟨_, hn, rfl, rfl, rfl⟩
    have x3 : 0 ≤ (l.getD j pair0).1 := by omega
    have p94 : (-9223372036854775807 ≤ (l.getD j pair0).1 ∧ (l.getD j pair0).1 ≤ 9223372036854775807) ∧ 1 ≤ (l.getD j pair0).2 ∧ (l.getD j pair0).2 ≤ 9223372036854775807 := ⟨⟨by omega, by omega⟩, x1, by omega⟩
    have hp1 := dn_pos' ha
    obtain ⟨⟨t1, t2⟩, t3⟩ := tM_ok hp1 x1
    have tr : 1 ≤ ((dn l j : Nat) : Int).tdiv (gcI (dn l j : Nat) (l.getD j pair0).2) ∧ ((dn l j : Nat) : Int).tdiv (gcI (dn l j : Nat) (l.getD j pair0).2) ≤ (dn l j : Nat) := ⟨t1, t2⟩
    have hb := big_t (D := (l.getD j pair0).2) (t := tM l j) x1
    have e5 : (l.getD j pair0).2 * tM l j = (dn l (j + 1) : Nat) := by rw [Int.mul_comm]; exact t3
    rw [e5] at hb
    have lpi := lp54i l r.wk (dn l j : Nat) (l.getD j pair0).2 (l.getD j pair0) j (Int.natCast_nonneg _) (by show 0 ≤ _; omega)
    have g1 : 1 ≤ gcI ((dn l j : Nat) : Int) (l.getD j pair0).2 := gcI_pos x1
    have g0 : gcI ((dn l j : Nat) : Int) (l.getD j pair0).2 ≠ 0 := by omega
    have d0 : (l.getD j pair0).2 ≠ 0 := by omega
    have ev1 : IntKind.i64.wrap (((dn l j : Nat) : Int).tdiv (gcI ((dn l j : Nat) : Int) (l.getD j pair0).2)) = tM l j := wr _ (by show _ ≤ tM l j; omega) (by show tM l j ≤ _; omega)
    have htd := (td_le (10000000000 : Int) (l.getD j pair0).2 x1).1 (by decide)
    have ev2 : IntKind.i64.wrap ((10000000000 : Int).tdiv (l.getD j pair0).2) = (10000000000 : Int).tdiv (l.getD j pair0).2 := wr _ (by omega) (by omega)
    by_cases hbig : (10000000000 : Int).tdiv (l.getD j pair0).2 < tM l j
    · have h5 := hb.1 hbig
      have hn : ¬ mOK l := fun q => by
        have := dn_mono' q.1 (j := j + 1) (k := l.length) (by omega) (Nat.le_refl _)
        have := q.2
        omega
      refine ⟨[Ans.o (Orc.b true), Ans.o (Orc.val 12 (AV.cptr (pairsA (List.drop j l))) H.nil), Ans.o (Orc.val 13 (AV.agg [I (l.getD j pair0).fst, I (l.getD j pair0).snd]) H.nil), Ans.o (Orc.b false), Ans.o (Orc.b false), Ans.o (Orc.b false), Ans.o (Orc.val 32 (AV.agg [I (lwN (l.getD j pair0).fst (l.getD j pair0).snd), I (lwD (l.getD j pair0).fst (l.getD j pair0).snd)]) (H.mk [[I (l.getD j pair0).fst, I (l.getD j pair0).snd]] [] [])), Ans.bfork (34 : Nat) [] [Ans.loop [(3 : Nat), (5 : Nat), (6 : Nat), (7 : Nat), (8 : Nat), (9 : Nat), (10 : Nat)] [Out.mk Unit (AX.exit (2 : Nat)) [(3 : Nat), (5 : Nat), (6 : Nat), (8 : Nat), (9 : Nat), (10 : Nat)] (fun x => True) (fun x => [I (↑(dn l j) : Int), AV.ptr 0 0, I (gcI (↑(dn l j) : Int) (l.getD j pair0).snd), pz l r.wk, I (↑l.length : Int), I (↑j : Int)]) (fun x => hP (l.getD j pair0)) fun y => [Ans.o (Orc.b true)]]]], fun u => of_eq ((↑j : Int) < (↑l.length : Int) ∧ aIndexAddr Try.prog (23 : Nat) (AV.sl (pairsA l) l.length r.wk) (I (↑j : Int)) = some (AV.cptr (pairsA (List.drop j l))) ∧ aLoad Try.prog (47 : Nat) (pairsA (List.drop j l)) = some (AV.agg [I (l.getD j pair0).fst, I (l.getD j pair0).snd]) ∧ (1 : Int) ≤ (l.getD j pair0).snd ∧ (l.getD j pair0).snd ≤ (10000000000 : Int) ∧ (0 : Int) ≤ (l.getD j pair0).fst ∧ aCall (Sof [c94.to]) (AV.fn (Fn.func (94 : Nat)) [] []) [I (l.getD j pair0).fst, I (l.getD j pair0).snd] (H.mk [[I (l.getD j pair0).fst, I (l.getD j pair0).snd]] [] []) = some (AV.agg [I (lwN (l.getD j pair0).fst (l.getD j pair0).snd), I (lwD (l.getD j pair0).fst (l.getD j pair0).snd)], H.mk [[I (l.getD j pair0).fst, I (l.getD j pair0).snd]] [] []) ∧ ((!(lwN (l.getD j pair0).fst (l.getD j pair0).snd == (l.getD j pair0).fst && (lwD (l.getD j pair0).fst (l.getD j pair0).snd == (l.getD j pair0).snd && true))) = true → (60 : Nat) = (60 : Nat) ∧ hits [Out.mk (List (List AV)) AX.ret [(2 : Nat)] (fun x => ¬mOK l) (fun x => [I 0]) (fun bs => H.mk bs [] []) fun x => [], Out.mk Unit (AX.exit (0 : Nat)) [(3 : Nat)] (fun x => mOK l) (fun x => [I (↑(dn l l.length) : Int)]) (fun x => H.nil) fun x => []] AX.ret [u (0 : Nat), u (1 : Nat), I 0, I (↑(dn l j) : Int), u (4 : Nat), AV.ptr 0 0, u (6 : Nat), u (7 : Nat), AV.sl (pairsA l) l.length r.wk, I (↑l.length : Int), I (↑j : Int), AV.bool true, AV.cptr (pairsA (List.drop j l)), AV.agg [I (l.getD j pair0).fst, I (l.getD j pair0).snd], AV.ptr 0 1, I (l.getD j pair0).snd, AV.bool false, AV.bool false, AV.ptr 0 1, I (l.getD j pair0).snd, AV.bool false, AV.bool false, AV.bool false, AV.ptr 0 0, I (l.getD j pair0).fst, AV.bool false, AV.bool false, AV.bool false, AV.ptr 0 0, I (l.getD j pair0).fst, AV.ptr 0 1, I (l.getD j pair0).snd, AV.agg [I (lwN (l.getD j pair0).fst (l.getD j pair0).snd), I (lwD (l.getD j pair0).fst (l.getD j pair0).snd)], AV.agg [I (l.getD j pair0).fst, I (l.getD j pair0).snd], AV.bool true, AV.bool true, u (36 : Nat), u (37 : Nat), u (38 : Nat), u (39 : Nat), u (40 : Nat), u (41 : Nat), u (42 : Nat), u (43 : Nat), u (44 : Nat), u (45 : Nat), u (46 : Nat), u (47 : Nat), u (48 : Nat), u (49 : Nat), u (50 : Nat), u (51 : Nat), u (52 : Nat), u (53 : Nat), u (54 : Nat), u (55 : Nat), u (56 : Nat), u (57 : Nat), u (58 : Nat), u (59 : Nat)] (H.mk [[I (l.getD j pair0).fst, I (l.getD j pair0).snd]] [] [])) ∧ ((!(lwN (l.getD j pair0).fst (l.getD j pair0).snd == (l.getD j pair0).fst && (lwD (l.getD j pair0).fst (l.getD j pair0).snd == (l.getD j pair0).snd && true))) = false → LoopS (Env.mk Try.prog (Sof [c94.to]) (Pof (P := Try.prog) []) H.nil.base (300 : Nat)) (loopAt Try.f54 (1 : Nat)) (60 : Nat) [(3 : Nat), (5 : Nat), (6 : Nat), (7 : Nat), (8 : Nat), (9 : Nat), (10 : Nat)] [I (↑(dn l j) : Int), AV.ptr 0 0, I (↑(dn l j) : Int), I (l.getD j pair0).snd, AV.sl (pairsA l) l.length r.wk, I (↑l.length : Int), I (↑j : Int)] (H.mk [[I (l.getD j pair0).fst, I (l.getD j pair0).snd]] [] []) [Out.mk Unit (AX.exit (2 : Nat)) [(3 : Nat), (5 : Nat), (6 : Nat), (8 : Nat), (9 : Nat), (10 : Nat)] (fun x => True) (fun x => [I (↑(dn l j) : Int), AV.ptr 0 0, I (gcI (↑(dn l j) : Int) (l.getD j pair0).snd), pz l r.wk, I (↑l.length : Int), I (↑j : Int)]) (fun x => hP (l.getD j pair0)) fun y => [Ans.o (Orc.b true)]] ∧ (∀ (y : Unit), True → ∀ (u : Nat → AV), gcI (↑(dn l j) : Int) (l.getD j pair0).snd ≠ (0 : Int) ∧ IntKind.i64.wrap ((↑(dn l j) : Int).tdiv (gcI (↑(dn l j) : Int) (l.getD j pair0).snd)) = (↑(dn l j) : Int).tdiv (gcI (↑(dn l j) : Int) (l.getD j pair0).snd) ∧ (l.getD j pair0).snd ≠ (0 : Int) ∧ IntKind.i64.wrap (Int.tdiv (10000000000 : Int) (l.getD j pair0).snd) = Int.tdiv (10000000000 : Int) (l.getD j pair0).snd ∧ Int.tdiv (10000000000 : Int) (l.getD j pair0).snd < (↑(dn l j) : Int).tdiv (gcI (↑(dn l j) : Int) (l.getD j pair0).snd) ∧ (60 : Nat) = (60 : Nat) ∧ hits [Out.mk (List (List AV)) AX.ret [(2 : Nat)] (fun x => ¬mOK l) (fun x => [I 0]) (fun bs => H.mk bs [] []) fun x => [], Out.mk Unit (AX.exit (0 : Nat)) [(3 : Nat)] (fun x => mOK l) (fun x => [I (↑(dn l l.length) : Int)]) (fun x => H.nil) fun x => []] AX.ret [u (0 : Nat), u (1 : Nat), I 0, I (↑(dn l j) : Int), u (4 : Nat), AV.ptr 0 0, I (gcI (↑(dn l j) : Int) (l.getD j pair0).snd), u (7 : Nat), AV.sl (pairsA l) l.length r.wk, I (↑l.length : Int), I (↑j : Int), u (11 : Nat), u (12 : Nat), u (13 : Nat), u (14 : Nat), u (15 : Nat), u (16 : Nat), u (17 : Nat), u (18 : Nat), u (19 : Nat), u (20 : Nat), u (21 : Nat), u (22 : Nat), u (23 : Nat), u (24 : Nat), u (25 : Nat), u (26 : Nat), u (27 : Nat), u (28 : Nat), u (29 : Nat), u (30 : Nat), u (31 : Nat), u (32 : Nat), u (33 : Nat), u (34 : Nat), u (35 : Nat), u (36 : Nat), u (37 : Nat), u (38 : Nat), u (39 : Nat), u (40 : Nat), u (41 : Nat), u (42 : Nat), u (43 : Nat), u (44 : Nat), I (↑(dn l j) : Int), I (gcI (↑(dn l j) : Int) (l.getD j pair0).snd), I ((↑(dn l j) : Int).tdiv (gcI (↑(dn l j) : Int) (l.getD j pair0).snd)), AV.ptr 0 1, I (l.getD j pair0).snd, I (Int.tdiv (10000000000 : Int) (l.getD j pair0).snd), AV.bool true, u (52 : Nat), u (53 : Nat), u (54 : Nat), u (55 : Nat), u (56 : Nat), u (57 : Nat), u (58 : Nat), u (59 : Nat)] (H.mk [[I (l.getD j pair0).fst, I (l.getD j pair0).snd]] [] [])) ∧ True)) (by kernel_rfl) ?_⟩
      refine ⟨by first | with_reducible assumption | omega | assumption, ?_⟩
      refine ⟨by first | exact ix_pairs (by kernel_rfl) (by omega) (by assumption) | exact ix_pairs (by kernel_rfl) (by omega) (rok_idx (by assumption) (by omega)), ?_⟩
      refine ⟨ld_pairs (by kernel_rfl) (by kernel_rfl) (by kernel_rfl) (by omega), ?_⟩
      refine ⟨by first | with_reducible assumption | omega | assumption, ?_⟩
      refine ⟨by first | with_reducible assumption | omega | assumption, ?_⟩
      refine ⟨by first | with_reducible assumption | omega | assumption, ?_⟩
      refine ⟨acall_hit (c := c94.to) ((l.getD j pair0).1, (l.getD j pair0).2) _ rfl p94, ?_⟩
      refine And.intro ?_ ?_
      · skip
        intro w0
        refine ⟨by first | with_reducible assumption | omega | assumption, ?_⟩
        exact .inl ⟨_, hn, rfl, rfl, rfl⟩
      · skip
        intro w0
        refine ⟨lpi, ?_⟩
        refine And.intro ?_ ?_
        · skip
          intro y
          intro w2
          intro u
          refine ⟨by first | with_reducible assumption | omega | assumption, ?_⟩
          refine ⟨wr _ (by omega) (by omega), ?_⟩
          refine ⟨by first | with_reducible assumption | omega | assumption, ?_⟩
          refine ⟨wr _ (by omega) (by omega), ?_⟩
          refine ⟨by first | with_reducible assumption | omega | assumption, ?_⟩
          refine ⟨by first | with_reducible assumption | omega | assumption, ?_⟩
          exact .inl ⟨_, hn, rfl, rfl, rfl⟩
        · skip
          trivial
    · have h5 : ¬ (10000000000 : Int) < ((dn l (j + 1) : Nat) : Int) := fun h => hbig (hb.2 h)
      have hs : dn l (j + 1) ≤ 10000000000 := by omega
      have hbig : tM l j ≤ (10000000000 : Int).tdiv (l.getD j pair0).2 := by omega
      have ev3 : IntKind.i64.wrap (tM l j * (l.getD j pair0).2) = ((dn l (j + 1) : Nat) : Int) := by rw [t3]; exact i_wrap (by omega)
      refine ⟨[Ans.o (Orc.b true), Ans.o (Orc.val 12 (AV.cptr (pairsA (List.drop j l))) H.nil), Ans.o (Orc.val 13 (AV.agg [I (l.getD j pair0).fst, I (l.getD j pair0).snd]) H.nil), Ans.o (Orc.b false), Ans.o (Orc.b false), Ans.o (Orc.b false), Ans.o (Orc.val 32 (AV.agg [I (lwN (l.getD j pair0).fst (l.getD j pair0).snd), I (lwD (l.getD j pair0).fst (l.getD j pair0).snd)]) (H.mk [[I (l.getD j pair0).fst, I (l.getD j pair0).snd]] [] [])), Ans.bfork (34 : Nat) [] [Ans.loop [(3 : Nat), (5 : Nat), (6 : Nat), (7 : Nat), (8 : Nat), (9 : Nat), (10 : Nat)] [Out.mk Unit (AX.exit (2 : Nat)) [(3 : Nat), (5 : Nat), (6 : Nat), (8 : Nat), (9 : Nat), (10 : Nat)] (fun x => True) (fun x => [I (↑(dn l j) : Int), AV.ptr 0 0, I (gcI (↑(dn l j) : Int) (l.getD j pair0).snd), pz l r.wk, I (↑l.length : Int), I (↑j : Int)]) (fun x => hP (l.getD j pair0)) fun y => [Ans.o (Orc.b false), Ans.o (Orc.val 57 (I (↑(dn l (j + (1 : Nat))) : Int)) H.nil), Ans.o (Orc.val 58 (I (↑(j + (1 : Nat)) : Int)) H.nil)]]]], fun u => of_eq ((↑j : Int) < (↑l.length : Int) ∧ aIndexAddr Try.prog (23 : Nat) (AV.sl (pairsA l) l.length r.wk) (I (↑j : Int)) = some (AV.cptr (pairsA (List.drop j l))) ∧ aLoad Try.prog (47 : Nat) (pairsA (List.drop j l)) = some (AV.agg [I (l.getD j pair0).fst, I (l.getD j pair0).snd]) ∧ (1 : Int) ≤ (l.getD j pair0).snd ∧ (l.getD j pair0).snd ≤ (10000000000 : Int) ∧ (0 : Int) ≤ (l.getD j pair0).fst ∧ aCall (Sof [c94.to]) (AV.fn (Fn.func (94 : Nat)) [] []) [I (l.getD j pair0).fst, I (l.getD j pair0).snd] (H.mk [[I (l.getD j pair0).fst, I (l.getD j pair0).snd]] [] []) = some (AV.agg [I (lwN (l.getD j pair0).fst (l.getD j pair0).snd), I (lwD (l.getD j pair0).fst (l.getD j pair0).snd)], H.mk [[I (l.getD j pair0).fst, I (l.getD j pair0).snd]] [] []) ∧ ((!(lwN (l.getD j pair0).fst (l.getD j pair0).snd == (l.getD j pair0).fst && (lwD (l.getD j pair0).fst (l.getD j pair0).snd == (l.getD j pair0).snd && true))) = true → (60 : Nat) = (60 : Nat) ∧ hits [Out.mk (List (List AV)) AX.ret [(2 : Nat)] (fun x => ¬mOK l) (fun x => [I 0]) (fun bs => H.mk bs [] []) fun x => [], Out.mk Unit (AX.exit (0 : Nat)) [(3 : Nat)] (fun x => mOK l) (fun x => [I (↑(dn l l.length) : Int)]) (fun x => H.nil) fun x => []] AX.ret [u (0 : Nat), u (1 : Nat), I 0, I (↑(dn l j) : Int), u (4 : Nat), AV.ptr 0 0, u (6 : Nat), u (7 : Nat), AV.sl (pairsA l) l.length r.wk, I (↑l.length : Int), I (↑j : Int), AV.bool true, AV.cptr (pairsA (List.drop j l)), AV.agg [I (l.getD j pair0).fst, I (l.getD j pair0).snd], AV.ptr 0 1, I (l.getD j pair0).snd, AV.bool false, AV.bool false, AV.ptr 0 1, I (l.getD j pair0).snd, AV.bool false, AV.bool false, AV.bool false, AV.ptr 0 0, I (l.getD j pair0).fst, AV.bool false, AV.bool false, AV.bool false, AV.ptr 0 0, I (l.getD j pair0).fst, AV.ptr 0 1, I (l.getD j pair0).snd, AV.agg [I (lwN (l.getD j pair0).fst (l.getD j pair0).snd), I (lwD (l.getD j pair0).fst (l.getD j pair0).snd)], AV.agg [I (l.getD j pair0).fst, I (l.getD j pair0).snd], AV.bool true, AV.bool true, u (36 : Nat), u (37 : Nat), u (38 : Nat), u (39 : Nat), u (40 : Nat), u (41 : Nat), u (42 : Nat), u (43 : Nat), u (44 : Nat), u (45 : Nat), u (46 : Nat), u (47 : Nat), u (48 : Nat), u (49 : Nat), u (50 : Nat), u (51 : Nat), u (52 : Nat), u (53 : Nat), u (54 : Nat), u (55 : Nat), u (56 : Nat), u (57 : Nat), u (58 : Nat), u (59 : Nat)] (H.mk [[I (l.getD j pair0).fst, I (l.getD j pair0).snd]] [] [])) ∧ ((!(lwN (l.getD j pair0).fst (l.getD j pair0).snd == (l.getD j pair0).fst && (lwD (l.getD j pair0).fst (l.getD j pair0).snd == (l.getD j pair0).snd && true))) = false → LoopS (Env.mk Try.prog (Sof [c94.to]) (Pof (P := Try.prog) []) H.nil.base (300 : Nat)) (loopAt Try.f54 (1 : Nat)) (60 : Nat) [(3 : Nat), (5 : Nat), (6 : Nat), (7 : Nat), (8 : Nat), (9 : Nat), (10 : Nat)] [I (↑(dn l j) : Int), AV.ptr 0 0, I (↑(dn l j) : Int), I (l.getD j pair0).snd, AV.sl (pairsA l) l.length r.wk, I (↑l.length : Int), I (↑j : Int)] (H.mk [[I (l.getD j pair0).fst, I (l.getD j pair0).snd]] [] []) [Out.mk Unit (AX.exit (2 : Nat)) [(3 : Nat), (5 : Nat), (6 : Nat), (8 : Nat), (9 : Nat), (10 : Nat)] (fun x => True) (fun x => [I (↑(dn l j) : Int), AV.ptr 0 0, I (gcI (↑(dn l j) : Int) (l.getD j pair0).snd), pz l r.wk, I (↑l.length : Int), I (↑j : Int)]) (fun x => hP (l.getD j pair0)) fun y => [Ans.o (Orc.b false), Ans.o (Orc.val 57 (I (↑(dn l (j + (1 : Nat))) : Int)) H.nil), Ans.o (Orc.val 58 (I (↑(j + (1 : Nat)) : Int)) H.nil)]] ∧ (∀ (y : Unit), True → ∀ (u : Nat → AV), gcI (↑(dn l j) : Int) (l.getD j pair0).snd ≠ (0 : Int) ∧ IntKind.i64.wrap ((↑(dn l j) : Int).tdiv (gcI (↑(dn l j) : Int) (l.getD j pair0).snd)) = (↑(dn l j) : Int).tdiv (gcI (↑(dn l j) : Int) (l.getD j pair0).snd) ∧ (l.getD j pair0).snd ≠ (0 : Int) ∧ IntKind.i64.wrap (Int.tdiv (10000000000 : Int) (l.getD j pair0).snd) = Int.tdiv (10000000000 : Int) (l.getD j pair0).snd ∧ (↑(dn l j) : Int).tdiv (gcI (↑(dn l j) : Int) (l.getD j pair0).snd) ≤ Int.tdiv (10000000000 : Int) (l.getD j pair0).snd ∧ gcI (↑(dn l j) : Int) (l.getD j pair0).snd ≠ (0 : Int) ∧ IntKind.i64.wrap ((↑(dn l j) : Int).tdiv (gcI (↑(dn l j) : Int) (l.getD j pair0).snd)) = (↑(dn l j) : Int).tdiv (gcI (↑(dn l j) : Int) (l.getD j pair0).snd) ∧ aBin Try.prog BinOp.mul (3 : Nat) (I ((↑(dn l j) : Int).tdiv (gcI (↑(dn l j) : Int) (l.getD j pair0).snd))) (I (l.getD j pair0).snd) = some (I (↑(dn l (j + (1 : Nat))) : Int)) ∧ aBin Try.prog BinOp.add (3 : Nat) (I (↑j : Int)) (I 1) = some (I (↑(j + (1 : Nat)) : Int)) ∧ (60 : Nat) = (60 : Nat) ∧ j < l.length ∧ Keep (AV.bnds (0 : Nat) (0 : Nat) (0 : Nat) [I (↑(dn l (j + (1 : Nat))) : Int), AV.sl (pairsA l) l.length r.wk, I (↑l.length : Int), I (↑(j + (1 : Nat)) : Int)] = true ∧ (H.mk [[I (l.getD j pair0).fst, I (l.getD j pair0).snd]] [] []).clean (0 : Nat) ∧ H.mk [] [] [] = H.mk [] [] [] ∧ [I (↑(dn l (j + (1 : Nat))) : Int), AV.sl (pairsA l) l.length r.wk, I (↑l.length : Int), I (↑(j + (1 : Nat)) : Int)] = [I (↑(dn l (j + (1 : Nat))) : Int), AV.sl (pairsA l) l.length r.wk, I (↑l.length : Int), I (↑(j + (1 : Nat)) : Int)] ∧ (∀ (i : Nat), i < j + (1 : Nat) → okM (l.getD i pair0)) ∧ dn l (j + (1 : Nat)) ≤ (10000000000 : Nat))) ∧ True)) (by kernel_rfl) ?_⟩
      refine ⟨by first | with_reducible assumption | omega | assumption, ?_⟩
      refine ⟨by first | exact ix_pairs (by kernel_rfl) (by omega) (by assumption) | exact ix_pairs (by kernel_rfl) (by omega) (rok_idx (by assumption) (by omega)), ?_⟩
      refine ⟨ld_pairs (by kernel_rfl) (by kernel_rfl) (by kernel_rfl) (by omega), ?_⟩
      refine ⟨by first | with_reducible assumption | omega | assumption, ?_⟩
      refine ⟨by first | with_reducible assumption | omega | assumption, ?_⟩
      refine ⟨by first | with_reducible assumption | omega | assumption, ?_⟩
      refine ⟨acall_hit (c := c94.to) ((l.getD j pair0).1, (l.getD j pair0).2) _ rfl p94, ?_⟩
      refine And.intro ?_ ?_
      · skip
        intro w0
        refine ⟨by first | with_reducible assumption | omega | assumption, ?_⟩
        exact .inl ⟨_, bad (fun h => by have := (lw_id x3 x1).2 h.2.2; simp_all), rfl, rfl, rfl⟩
      · skip
        intro w0
        refine ⟨lpi, ?_⟩
        refine And.intro ?_ ?_
        · skip
          intro y
          intro w2
          intro u
          refine ⟨by first | with_reducible assumption | omega | assumption, ?_⟩
          refine ⟨wr _ (by omega) (by omega), ?_⟩
          refine ⟨by first | with_reducible assumption | omega | assumption, ?_⟩
          refine ⟨wr _ (by omega) (by omega), ?_⟩
          refine ⟨by first | with_reducible assumption | omega | assumption, ?_⟩
          refine ⟨by first | with_reducible assumption | omega | assumption, ?_⟩
          refine ⟨wr _ (by omega) (by omega), ?_⟩
          refine ⟨told_mul (by with_reducible assumption), ?_⟩
          refine ⟨told_add (by with_reducible assumption), ?_⟩
          refine ⟨by first | with_reducible assumption | omega | assumption, ?_⟩
          refine ⟨by first | with_reducible assumption | omega | assumption, ?_⟩
          exact ⟨hcl _, clean0 _, rfl, rfl, all_succ (q := fun i => okM (l.getD i pair0)) ha ⟨⟨x1, x2⟩, x3, (lw_id x3 x1).1 (by first | assumption | simpa using w0)⟩, hs⟩
        · skip
          trivial
  · have hz : (l.length : Int) ≤ j := by omega
    have e : j = l.length := by omega
    subst e
    refine ⟨[Ans.o (Orc.b false)], fun u => of_eq ((↑l.length : Int) ≤ (↑l.length : Int) ∧ (60 : Nat) = (60 : Nat) ∧ hits [Out.mk (List (List AV)) AX.ret [(2 : Nat)] (fun x => ¬mOK l) (fun x => [I 0]) (fun bs => H.mk bs [] []) fun x => [], Out.mk Unit (AX.exit (0 : Nat)) [(3 : Nat)] (fun x => mOK l) (fun x => [I (↑(dn l l.length) : Int)]) (fun x => H.nil) fun x => []] (AX.exit (0 : Nat)) [u (0 : Nat), u (1 : Nat), u (2 : Nat), I (↑(dn l l.length) : Int), u (4 : Nat), u (5 : Nat), u (6 : Nat), u (7 : Nat), AV.sl (pairsA l) l.length r.wk, I (↑l.length : Int), I (↑l.length : Int), AV.bool false, u (12 : Nat), u (13 : Nat), u (14 : Nat), u (15 : Nat), u (16 : Nat), u (17 : Nat), u (18 : Nat), u (19 : Nat), u (20 : Nat), u (21 : Nat), u (22 : Nat), u (23 : Nat), u (24 : Nat), u (25 : Nat), u (26 : Nat), u (27 : Nat), u (28 : Nat), u (29 : Nat), u (30 : Nat), u (31 : Nat), u (32 : Nat), u (33 : Nat), u (34 : Nat), u (35 : Nat), u (36 : Nat), u (37 : Nat), u (38 : Nat), u (39 : Nat), u (40 : Nat), u (41 : Nat), u (42 : Nat), u (43 : Nat), u (44 : Nat), u (45 : Nat), u (46 : Nat), u (47 : Nat), u (48 : Nat), u (49 : Nat), u (50 : Nat), u (51 : Nat), u (52 : Nat), u (53 : Nat), u (54 : Nat), u (55 : Nat), u (56 : Nat), u (57 : Nat), u (58 : Nat), u (59 : Nat)] (H.mk [] [] [])) (by kernel_rfl) ?_⟩
    refine ⟨by first | with_reducible assumption | omega | assumption, ?_⟩
    refine ⟨by first | with_reducible assumption | omega | assumption, ?_⟩
    exact .inr (.inl ⟨(), ⟨ha, hD⟩, rfl, rfl, rfl⟩)
end Go.Proofs.Bts

