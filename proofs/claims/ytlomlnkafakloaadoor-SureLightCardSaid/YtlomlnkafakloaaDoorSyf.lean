/- Layer 5: linear programs: the greatest sum. -/
import Derived.Test.YtlomlnkafakloaaDoorSye
import Derived.Test.YtlomlnkafakloaaDoorSxH
import Derived.Test.YtlomlnkafakloaaDoorVm6
import Derived.KernelRfl
set_option linter.unusedSimpArgs false
set_option linter.unusedVariables false
set_option linter.unnecessarySimpa false
set_option maxHeartbeats 4000000
set_option maxRecDepth 100000
namespace Go.Proofs.Sur
open Go Go.VM

abbrev gcI (a b : Int) : Int := (Nat.gcd a.toNat b.toNat : Nat)
abbrev nn6 (a : Int) : Prop := 0 ≤ a ∧ a ≤ 9223372036854775807
abbrev o70 (g : Int) : List Out := [.mk Unit (.exit 0) [0] (fun _ => True) (fun _ => [I g]) (fun _ => .nil) (fun _ => [])]
theorem simp70 : allSimpleM none1 (loopAt Tryd.f70 0) = true := by kernel_rfl
theorem lp70 (a b : Int) (ha : nn6 a) (hb : nn6 b) : LoopS (En6 []) (loopAt Tryd.f70 0) 12 [0, 1] [I a, I b] .nil (o70 (gcI a b)) := by
  have hR : Rests (En6 []) none1 := rests mixed .nil
  refine loop_s hR simp70 none (by intro _ h; cases h) (fun j vs H => H = .nil ∧ ∃ x y : Int, vs = [I x, I y] ∧ nn6 x ∧ nn6 y ∧ gcI x y = gcI a b ∧ y.toNat + j ≤ b.toNat) b.toNat ⟨rfl, a, b, rfl, ha, hb, rfl, by omega⟩ (by intro _ h; cases h) ?_
  rintro j vs H hj ⟨rfl, x, y, rfl, hx, hy, hg, hle⟩
  by_cases hz : y = 0
  · have e : x = gcI a b := by
      rw [← hg, hz]
      have := hx.1
      show x = ((Nat.gcd x.toNat 0 : Nat) : Int)
      rw [Nat.gcd_zero_right]; omega
    subst hz
    rw [← e]
    refine ⟨[Ans.o Orc.dflt], fun u => of_eq ((12 : Nat) = (12 : Nat) ∧ hits [Out.mk Unit (AX.exit 0) [0] (fun x => True) (fun x_1 => [I x]) (fun x => H.nil) fun x => []] (AX.exit 0) [I x, I 0, u (2 : Nat), u (3 : Nat), u (4 : Nat), I 0, AV.bool false, u (7 : Nat), u (8 : Nat), u (9 : Nat), u (10 : Nat), u (11 : Nat)] (H.mk [] [] [])) (by kernel_rfl) ?_⟩
    refine ⟨by first | with_reducible assumption | omega | assumption, ?_⟩
    exact .inl ⟨(), trivial, rfl, rfl, rfl⟩
  · have hz : y ≠ 0 := hz
    obtain ⟨hx1, hx2⟩ := hx
    obtain ⟨hy1, hy2⟩ := hy
    obtain ⟨X, rfl⟩ : ∃ X : Nat, x = X := ⟨x.toNat, by omega⟩
    obtain ⟨Y, rfl⟩ : ∃ Y : Nat, y = Y := ⟨y.toNat, by omega⟩
    have hm : X % Y < Y := Nat.mod_lt _ (by omega)
    have ev0 : (X : Int).tmod (Y : Int) = ((X % Y : Nat) : Int) := by rw [Int.ofNat_tmod]
    have hg2 : gcI (Y : Nat) ((X % Y : Nat) : Int) = gcI a b := by
      rw [← hg]
      show ((Nat.gcd (Y : Int).toNat ((X % Y : Nat) : Int).toNat : Nat) : Int) = ((Nat.gcd (X : Int).toNat (Y : Int).toNat : Nat) : Int)
      rw [Int.toNat_natCast, Int.toNat_natCast, Int.toNat_natCast, Nat.gcd_comm X Y, Nat.gcd_rec Y X, Nat.gcd_comm]
    have h1 : nn6 ((X % Y : Nat) : Int) := ⟨by omega, by omega⟩
    have h2 : ((X % Y : Nat) : Int).toNat + (j + 1) ≤ b.toNat := by rw [Int.toNat_natCast]; rw [Int.toNat_natCast] at hle; omega
    have h3 : nn6 ((Y : Nat) : Int) := ⟨hy1, hy2⟩
    refine ⟨[Ans.o (Orc.b true), Ans.o (Orc.val 10 (I (↑(X % Y) : Int)) H.nil)], fun u => of_eq ((↑Y : Int) ≠ (0 : Int) ∧ aBin Tryd.prog BinOp.rem (3 : Nat) (I (↑X : Int)) (I (↑Y : Int)) = some (I (↑(X % Y) : Int)) ∧ (12 : Nat) = (12 : Nat) ∧ j < b.toNat ∧ Keep (H.mk [] [] [] = H.mk [] [] [] ∧ ∃ x y, [I (↑Y : Int), I (↑(X % Y) : Int)] = [I x, I y] ∧ nn6 x ∧ nn6 y ∧ gcI x y = gcI a b ∧ y.toNat + (j + (1 : Nat)) ≤ b.toNat)) (by kernel_rfl) ?_⟩
    refine ⟨by first | with_reducible assumption | omega | assumption, ?_⟩
    refine ⟨told_rem (by first | decide | omega) (by with_reducible assumption), ?_⟩
    refine ⟨by first | with_reducible assumption | omega | assumption, ?_⟩
    refine ⟨by first | with_reducible assumption | omega | assumption, ?_⟩
    exact ⟨rfl, _, _, rfl, h3, h1, hg2, h2⟩
theorem ok70 : FokM Tryd.prog none1 70 Tryd.f70 := ⟨mixed, by kernel_rfl, by kernel_rfl, by kernel_rfl, by kernel_rfl⟩
theorem r70 (a : Int) (b : Int) (hp : nn6 a ∧ nn6 b) : Body ⟨Tryd.prog, Sof (P := Tryd.prog) [], Pof (P := Tryd.prog) [], H.nil.base, 300⟩ none1 Tryd.f70 [I a, I b] .nil (I (gcI a b), .nil) := by
  have lp := lp70 a b hp.1 hp.2
  refine body_s ([Ans.loop [0, 1] [Out.mk Unit (AX.exit 0) [0] (fun x => True) (fun x => [I (gcI a b)]) (fun x => H.nil) fun y => []]]) (LoopS (Env.mk Tryd.prog (Sof (P := Tryd.prog) []) (Pof (P := Tryd.prog) []) H.nil.base (300 : Nat)) (loopAt Tryd.f70 0) 12 [0, 1] [I a, I b] (H.mk [] [] []) [Out.mk Unit (AX.exit 0) [0] (fun x => True) (fun x => [I (gcI a b)]) (fun x => H.nil) fun y => []] ∧ (∀ (y : Unit), True → ∀ (u : Nat → AV), (I (gcI a b), H.mk [] [] []) = (I (gcI a b), H.mk [] [] [])) ∧ True) (by kernel_rfl) ?_
  refine ⟨lp, ?_⟩
  refine And.intro ?_ ?_
  · skip
    intro y
    intro w1
    intro u
    rfl
  · skip
    trivial
noncomputable def c70 : PCtr Tryd.prog := sctr ok70 (X := Int × Int) (fun x => [I x.1, I x.2]) (fun x => nn6 x.1 ∧ nn6 x.2) (fun x => I (gcI x.1 x.2)) (by intro x y e _ _; simp at e; simp [e]) (fun x => by simp [AV.bnds, AV.bnd, AV.wk, rm_wk_bnd]) (fun x => by first | rfl | (simp [AV.bnd, rm_wk_bnd]; done)  | (simp [AV.bnd, AV.bnds, rm_wk_bnd]; done) | simp [AV.bnd, AV.bnds, Room.bnd, rm_wk_bnd]) (fun x hx => ⟨_, _, _, .nil, r70 (x.1) (x.2) hx⟩)
/-! the functions, as the loop calls them -/
theorem ints_inj {l m : List Int} (h : ints l = ints m) : l = m := enc_inj (fun x y e => by simpa using e) h
theorem hG_inj {n m : Nat} {R B R' B' : List Int} {s s' : Int} (h : hG n m R B s = hG n m R' B' s') : R = R' ∧ B = B' ∧ s = s' := by
  have h1 := congrArg H.blk h
  simp only [List.cons.injEq, and_true, true_and] at h1
  obtain ⟨a1, a2, a3⟩ := h1
  refine ⟨ints_inj a1, ints_inj a3, by simpa using a2⟩
noncomputable def c86 (n m : Nat) (hn : nm n m) : Ctr Tryd.prog where
  f := 86
  X := List Int × List Int × Int × Int
  args _ := [.ptr 2 0]
  pre x H := H = hG n m x.1 x.2.1 x.2.2.1 ∧ Eqs n m x.1 x.2.1 ∧ entV n m x.1 = x.2.2.2
  res x H := (I x.2.2.2, H)
  det := by
    rintro ⟨R, B, s, v⟩ ⟨R', B', s', v'⟩ H _ ⟨p1, _, p2⟩ ⟨q1, _, q2⟩
    simp only at p1 p2 q1 q2
    obtain ⟨rfl, _, _⟩ := hG_inj (p1.symm.trans q1)
    simp only
    rw [← p2, ← q2]
  ok := by
    rintro ⟨R, B, s, v⟩ H ⟨rfl, h, hv⟩
    simp only at h hv
    subst hv
    exact ⟨ok86.call, (r86 n m R B s hn h).run ok86 (ct86 n m hn) rfl⟩
noncomputable def c88 (n m : Nat) (hn : nm n m) : Ctr Tryd.prog where
  f := 88
  X := List Int × List Int × Int × Nat × Int
  args x := [.ptr 2 0, I (x.2.2.2.1 : Nat)]
  pre x H := H = hG n m x.1 x.2.1 x.2.2.1 ∧ Eqs n m x.1 x.2.1 ∧ x.2.2.2.1 < n + m ∧ lvO (lv n m x.1 x.2.1 x.2.2.2.1 m) = x.2.2.2.2
  res x H := (I x.2.2.2.2, H)
  det := by
    rintro ⟨R, B, s, e, v⟩ ⟨R', B', s', e', v'⟩ H q ⟨p1, _, _, p2⟩ ⟨q1, _, _, q2⟩
    simp only at p1 p2 q1 q2
    obtain ⟨rfl, rfl, _⟩ := hG_inj (p1.symm.trans q1)
    simp at q
    have q : e = e' := by omega
    subst q
    simp only
    rw [← p2, ← q2]
  ok := by
    rintro ⟨R, B, s, e, v⟩ H ⟨rfl, h, he, hv⟩
    simp only at h he hv
    subst hv
    exact ⟨ok88.call, (r88 n m R B s hn h e he).run ok88 (ct88 n m R B s hn h e he) rfl⟩
noncomputable def c87 (n m : Nat) (hn : nm n m) : Ctr Tryd.prog where
  f := 87
  X := List Int × List Int × Int × Nat × Nat
  args x := [.ptr 2 0, I (x.2.2.2.1 : Nat), I (x.2.2.2.2 : Nat)]
  pre x H := H = hG n m x.1 x.2.1 x.2.2.1 ∧ Eqs n m x.1 x.2.1 ∧ x.2.2.2.1 < m ∧ x.2.2.2.2 < n + m ∧ 0 < x.2.2.1
  res x _ := (.tup [], hG n m (trnL n m x.1 x.2.2.2.1 x.2.2.2.2 x.2.2.1) (x.2.1.set x.2.2.2.1 (x.2.2.2.2 : Int)) (x.1.getD (x.2.2.2.1 * wdt n m + x.2.2.2.2) i0))
  det := by
    rintro ⟨R, B, s, l, e⟩ ⟨R', B', s', l', e'⟩ H q ⟨p1, _⟩ ⟨q1, _⟩
    simp only at p1 q1
    obtain ⟨rfl, rfl, rfl⟩ := hG_inj (p1.symm.trans q1)
    simp at q
    obtain ⟨r1, r2⟩ := q
    have r1 : l = l' := by omega
    have r2 : e = e' := by omega
    subst r1 r2
    rfl
  ok := by
    rintro ⟨R, B, s, l, e⟩ H ⟨rfl, h, hl, he, hs⟩
    exact ⟨ok87.call, (r87 n m R B s hn h l e hl he hs).run ok87 (ct86 n m hn) rfl⟩
abbrev h58 : H := ⟨[[I 0, I 0]], [], []⟩
noncomputable def c85 (n m : Nat) (S : List Int) (r : Room) (hr : rok S r) (hn : nm n m) (hS : setsOk n m S) (h1 : 1 ≤ m) : Ctr Tryd.prog where
  f := 85
  X := Unit
  args _ := [I (n : Nat), .sl (ints S) m r]
  pre _ H := H = h58
  res _ _ := (.ptr 2 0, hT n m (eR n m S) (bsl n m))
  det := by rintro _ _ _ _ _ _; rfl
  ok := by
    rintro _ H rfl
    exact ⟨ok85.call, (r85 n m S r hr hn hS h1).run ok85 (ct86 n m hn) rfl⟩
abbrev M58 : FuncId → Bool := fun f => f == 85 || f == 86 || f == 87 || f == 88
theorem Good.eqs {n m : Nat} {b : Nat → Nat → Bool} {T : Tb} (hn : nm n m) (h : Good n m b T) : Eqs n m T.1 T.2.1 := by
  obtain ⟨⟨N, σ, hL⟩, _⟩ := h
  exact ⟨hn, hL.lenR, hL.lenB, fun i c hi hc => hL.cel_le hn.2.1 hi hc, fun i hi => hL.Blt i hi⟩
theorem eR_at {n m : Nat} {S : List Int} {i c : Nat} (hi : i ≤ m) (hc : c ≤ n + m) : cel n m (eR n m S) i c =
    if i < m then (if c < n then ((bi (at_ S i) c).toNat : Int) else if c = n + i ∨ c = n + m then 1 else 0) else if c < n then 1 else 0 := by
  have hcw : c < wdt n m := by simp only [wdt]; omega
  rw [← ef_at (S := S) hcw]
  simp only [cel, gt, eR]
  rw [List.getD_eq_getElem?_getD, List.getElem?_map, List.getElem?_range (ix_lt hi hcw)]; rfl
abbrev bS (S : List Int) (i j : Nat) : Bool := bi (at_ S i) j
theorem start_good {n m : Nat} {S : List Int} (hS : setsOk n m S) : Good n m (bS S) (eR n m S, bsl n m, 1) := by
  refine ⟨⟨_, _, Lp.start (by simp [eR]) (bsl_len n m) (fun i hi => bsl_at hi) (fun i j hi hj => ?_) (fun i k hi hk => ?_) (fun i hi => ?_) (fun j hj => ?_) ?_⟩, fun i hi => ?_⟩
  · rw [eR_at (by omega) (by omega), if_pos hi, if_pos hj]
    show (((bi (at_ S i) j).toNat : Nat) : Int) = if bi (at_ S i) j = true then 1 else 0
    cases bi (at_ S i) j <;> rfl
  · rw [eR_at hi (by omega)]
    by_cases h : i < m
    · rw [if_pos h, if_neg (by omega)]
      by_cases e : i = k
      · rw [if_pos e, if_pos (.inl (by omega))]
      · rw [if_neg e, if_neg (by omega)]
    · rw [if_neg h, if_neg (by omega), if_neg (by omega)]
  · rw [eR_at (by omega) (by omega), if_pos hi, if_neg (by omega), if_pos (.inr rfl)]
  · rw [eR_at (Nat.le_refl m) (by omega), if_neg (by omega), if_pos hj]
  · rw [eR_at (Nat.le_refl m) (by omega), if_neg (by omega), if_neg (by omega)]
  · show 0 ≤ cel n m (eR n m S) i (n + m)
    rw [eR_at (by omega) (by omega), if_pos hi, if_neg (by omega), if_pos (.inr rfl)]; decide
noncomputable abbrev L58 (n m : Nat) (S : List Int) (r : Room) (hr : rok S r) (hn : nm n m) (hS : setsOk n m S) (h1 : 1 ≤ m) : List (Ctr Tryd.prog) := [g89 n m hn, c85 n m S r hr hn hS h1, c86 n m hn, c88 n m hn, c87 n m hn, c70.to]
theorem ct58 (n m : Nat) (S : List Int) (r : Room) (hr : rok S r) (hn : nm n m) (hS : setsOk n m S) (h1 : 1 ≤ m) : Ctrs Tryd.prog M58 (L58 n m S r hr hn hS h1) :=
  .rd _ (c89_reads ..) (.eff _ rfl (.eff _ rfl (.eff _ rfl (.eff _ rfl (.pure _ .nil)))))
theorem ok58 : FokM Tryd.prog M58 58 Tryd.f58 := ⟨mixed, by kernel_rfl, by kernel_rfl, by kernel_rfl, by kernel_rfl⟩
theorem simp58 : allSimpleM M58 (loopAt Tryd.f58 0) = true := by kernel_rfl
abbrev v58 (m : Nat) : List AV := [.sl [] m .no, .ptr 0 0, .ptr 2 0]
abbrev o58 (n m : Nat) (T : Tb) : List Out := [.mk Unit (.exit 0) [1, 4, 5] (fun _ => True) (fun _ => v58 m) (fun _ => hG n m T.1 T.2.1 T.2.2) (fun _ => [])]
theorem lp58 (n m : Nat) (S : List Int) (r : Room) (hr : rok S r) (hn : nm n m) (hS : setsOk n m S) (h1 : 1 ≤ m) (b : Nat → Nat → Bool) (K : Nat) (F : Nat → Tb)
    (hF : ∀ k, k < K → ∃ e l, Stp n m (F k) e l (F (k + 1))) (hK : ent n m (F K).1 = none) (hg : ∀ k, k ≤ K → Good n m b (F k)) :
    LoopS (En6 (L58 n m S r hr hn hS h1)) (loopAt Tryd.f58 0) 50 [1, 4, 5] (v58 m) (hG n m (F 0).1 (F 0).2.1 (F 0).2.2) (o58 n m (F K)) := by
  have hR : Rests (En6 (L58 n m S r hr hn hS h1)) M58 := rests mixed (ct58 n m S r hr hn hS h1)
  refine loop_s hR simp58 none (by intro _ h; cases h) (fun j vs H => H = hG n m (F j).1 (F j).2.1 (F j).2.2 ∧ vs = v58 m ∧ j ≤ K) K ⟨rfl, rfl, Nat.zero_le _⟩ (by intro _ h; cases h) ?_
  rintro j vs H hj ⟨rfl, rfl, hle⟩
  have hE := (hg j hj).eqs hn
  by_cases hz : j < K
  · obtain ⟨e, l, s1, s2, s3⟩ := hF j hz
    obtain ⟨_, _, hpos, hlm, _⟩ := good_step (hg j hj) ⟨s1, s2, s3⟩
    have hen := (ent_some s1).1
    have q1 : (F (j + 1)).1 = trnL n m (F j).1 l e (F j).2.2 := by rw [s3]
    have q2 : (F (j + 1)).2.1 = (F j).2.1.set l (e : Int) := by rw [s3]
    have q3 : (F (j + 1)).2.2 = (F j).1.getD (l * wdt n m + e) i0 := by rw [s3]
    generalize F j = T at *
    obtain ⟨R, B, s⟩ := T
    simp only at s1 s2 hE hpos hlm q1 q2 q3 ⊢
    have hev : entV n m R = (e : Int) := by simp only [entV, s1]
    have hlv : lvO (lv n m R B e m) = (l : Int) := by rw [s2]; rfl
    have hh : (⟨[[I 0, I 0], ints R, [.msl 1 0 ((m + 1) * wdt n m) ((m + 1) * wdt n m) 1, I (wdt n m : Nat), .msl 3 0 m 9223372036854775808 1, I s], ints B], [], []⟩ : H) = hG n m R B s := rfl
    have k0 : (0 : Int) ≤ ((e : Nat) : Int) := by omega
    have p86 : hG n m R B s = hG n m R B s ∧ Eqs n m R B ∧ entV n m R = (e : Int) := ⟨rfl, hE, hev⟩
    have p88 : hG n m R B s = hG n m R B s ∧ Eqs n m R B ∧ e < n + m ∧ lvO (lv n m R B e m) = (l : Int) := ⟨rfl, hE, hen, hlv⟩
    have p87 : hG n m R B s = hG n m R B s ∧ Eqs n m R B ∧ l < m ∧ e < n + m ∧ 0 < s := ⟨rfl, hE, hlm, hen, hpos⟩
    refine ⟨[Ans.o (Orc.val 13 (I (↑e : Int)) (hG n m R B s)), Ans.o Orc.dflt, Ans.o (Orc.val 19 (I (↑l : Int)) (hG n m R B s)), Ans.o (Orc.val 21 (AV.tup []) (H.mk [[I 0, I 0], ints (trnL n m R l e s), [AV.msl 1 0 ((m + (1 : Nat)) * wdt n m) ((m + (1 : Nat)) * wdt n m) (1 : Nat), I (↑(wdt n m) : Int), AV.msl 3 0 m (9223372036854775808 : Nat) (1 : Nat), I (R.getD (l * wdt n m + e) i0)], ints (B.set l (↑e : Int))] [] []))], fun u => of_eq (aCall (Sof (L58 n m S r hr hn hS h1)) (AV.fn (Fn.func 86) [] []) [AV.ptr 2 0] (hG n m R B s) = some (I (↑e : Int), H.mk [[I 0, I 0], ints R, [AV.msl 1 0 ((m + (1 : Nat)) * wdt n m) ((m + (1 : Nat)) * wdt n m) (1 : Nat), I (↑(wdt n m) : Int), AV.msl 3 0 m (9223372036854775808 : Nat) (1 : Nat), I s], ints B] [] []) ∧ aCall (Sof (L58 n m S r hr hn hS h1)) (AV.fn (Fn.func 88) [] []) [AV.ptr 2 0, I (↑e : Int)] (hG n m R B s) = some (I (↑l : Int), H.mk [[I 0, I 0], ints R, [AV.msl 1 0 ((m + (1 : Nat)) * wdt n m) ((m + (1 : Nat)) * wdt n m) (1 : Nat), I (↑(wdt n m) : Int), AV.msl 3 0 m (9223372036854775808 : Nat) (1 : Nat), I s], ints B] [] []) ∧ aCall (Sof (L58 n m S r hr hn hS h1)) (AV.fn (Fn.func 87) [] []) [AV.ptr 2 0, I (↑l : Int), I (↑e : Int)] (hG n m R B s) = some (AV.tup [], H.mk [[I 0, I 0], ints (trnL n m R l e s), [AV.msl 1 0 ((m + (1 : Nat)) * wdt n m) ((m + (1 : Nat)) * wdt n m) (1 : Nat), I (↑(wdt n m) : Int), AV.msl 3 0 m (9223372036854775808 : Nat) (1 : Nat), I (R.getD (l * wdt n m + e) i0)], ints (B.set l (↑e : Int))] [] []) ∧ (50 : Nat) = (50 : Nat) ∧ j < K ∧ Keep (H.mk [[I 0, I 0], ints (trnL n m R l e s), [AV.msl 1 0 ((m + (1 : Nat)) * wdt n m) ((m + (1 : Nat)) * wdt n m) (1 : Nat), I (↑(wdt n m) : Int), AV.msl 3 0 m (9223372036854775808 : Nat) (1 : Nat), I (R.getD (l * wdt n m + e) i0)], ints (B.set l (↑e : Int))] [] [] = H.mk [[I 0, I 0], ints (F (j + (1 : Nat))).fst, [AV.msl 1 0 ((m + (1 : Nat)) * wdt n m) ((m + (1 : Nat)) * wdt n m) (1 : Nat), I (↑(wdt n m) : Int), AV.msl 3 0 m (9223372036854775808 : Nat) (1 : Nat), I (F (j + (1 : Nat))).snd.snd], ints (F (j + (1 : Nat))).snd.fst] [] [] ∧ [AV.sl [] m Room.no, AV.ptr 0 0, AV.ptr 2 0] = [AV.sl [] m Room.no, AV.ptr 0 0, AV.ptr 2 0] ∧ j + (1 : Nat) ≤ K)) (by kernel_rfl) ?_⟩
    refine ⟨acall_hit (c := c86 n m hn) (R, B, s, (e : Int)) _ rfl p86, ?_⟩
    refine ⟨acall_hit (c := c88 n m hn) (R, B, s, (e : Nat), (l : Int)) _ rfl p88, ?_⟩
    refine ⟨acall_hit (c := c87 n m hn) (R, B, s, (l : Nat), (e : Nat)) _ rfl p87, ?_⟩
    refine ⟨by first | with_reducible assumption | omega | assumption, ?_⟩
    refine ⟨by first | with_reducible assumption | omega | assumption, ?_⟩
    exact ⟨by rw [q1, q2, q3], rfl, hz⟩
  · have e' : j = K := by omega
    subst e'
    generalize F j = T at *
    obtain ⟨R, B, s⟩ := T
    simp only at hE hK ⊢
    have hev : entV n m R = -1 := by simp only [entV, hK]
    have hh : (⟨[[I 0, I 0], ints R, [.msl 1 0 ((m + 1) * wdt n m) ((m + 1) * wdt n m) 1, I (wdt n m : Nat), .msl 3 0 m 9223372036854775808 1, I s], ints B], [], []⟩ : H) = hG n m R B s := rfl
    have p86 : hG n m R B s = hG n m R B s ∧ Eqs n m R B ∧ entV n m R = -1 := ⟨rfl, hE, hev⟩
    refine ⟨[Ans.o (Orc.val 13 (I (-1 : Int)) (hG n m R B s)), Ans.o Orc.dflt], fun u => of_eq (aCall (Sof (L58 n m S r hr hn hS h1)) (AV.fn (Fn.func 86) [] []) [AV.ptr 2 0] (hG n m R B s) = some (I (-1 : Int), H.mk [[I 0, I 0], ints R, [AV.msl 1 0 ((m + (1 : Nat)) * wdt n m) ((m + (1 : Nat)) * wdt n m) (1 : Nat), I (↑(wdt n m) : Int), AV.msl 3 0 m (9223372036854775808 : Nat) (1 : Nat), I s], ints B] [] []) ∧ (50 : Nat) = (50 : Nat) ∧ hits [Out.mk Unit (AX.exit 0) [1, 4, 5] (fun x => True) (fun x => v58 m) (fun x => hG n m (R, B, s).fst (R, B, s).snd.fst (R, B, s).snd.snd) fun x => []] (AX.exit 0) [u (0 : Nat), AV.sl [] m Room.no, u (2 : Nat), u (3 : Nat), AV.ptr 0 0, AV.ptr 2 0, I (-1 : Int), u (7 : Nat), u (8 : Nat), u (9 : Nat), u (10 : Nat), u (11 : Nat), AV.ptr 2 0, I (-1 : Int), I (-1 : Int), AV.bool true, u (16 : Nat), u (17 : Nat), u (18 : Nat), u (19 : Nat), u (20 : Nat), u (21 : Nat), u (22 : Nat), u (23 : Nat), u (24 : Nat), u (25 : Nat), u (26 : Nat), u (27 : Nat), u (28 : Nat), u (29 : Nat), u (30 : Nat), u (31 : Nat), u (32 : Nat), u (33 : Nat), u (34 : Nat), u (35 : Nat), u (36 : Nat), u (37 : Nat), u (38 : Nat), u (39 : Nat), u (40 : Nat), u (41 : Nat), u (42 : Nat), u (43 : Nat), u (44 : Nat), u (45 : Nat), u (46 : Nat), u (47 : Nat), u (48 : Nat), u (49 : Nat)] (hG n m R B s)) (by kernel_rfl) ?_⟩
    refine ⟨acall_hit (c := c86 n m hn) (R, B, s, (-1 : Int)) _ rfl p86, ?_⟩
    refine ⟨by first | with_reducible assumption | omega | assumption, ?_⟩
    exact .inl ⟨(), trivial, rfl, rfl, rfl⟩
theorem lp58t (n m : Nat) (S : List Int) (r : Room) (hr : rok S r) (hn : nm n m) (hS : setsOk n m S) (h1 : 1 ≤ m) (b : Nat → Nat → Bool) (K : Nat) (F : Nat → Tb) (h0 : F 0 = (eR n m S, bsl n m, 1))
    (hF : ∀ k, k < K → ∃ e l, Stp n m (F k) e l (F (k + 1))) (hK : ent n m (F K).1 = none) (hg : ∀ k, k ≤ K → Good n m b (F k)) :
    LoopS (En6 (L58 n m S r hr hn hS h1)) (loopAt Tryd.f58 0) 50 [1, 4, 5] [.sl (ints S) m r, .ptr 0 0, .ptr 2 0] (hT n m (eR n m S) (bsl n m)) (o58 n m (F K)) := by
  have lp := lp58 n m S r hr hn hS h1 b K F hF hK hg
  rw [h0] at lp
  refine LoopS.blur ?_
  have hm : ¬ m = 0 := by omega
  have e1 : [AV.sl (ints S) m r, .ptr 0 0, .ptr 2 0].map blr = v58 m := by simp [blr, hm]
  rw [e1]
  have e2 : (v58 m).map (thw 0 3) = v58 m := by simp [thw]
  have e3 : ∀ l : List Int, (ints l).map (thw 0 3) = ints l := fun l => by
    simp only [ints, List.map_map]
    exact List.map_congr_left fun x _ => rfl
  refine LoopS.thaw (k := 0) (n := m) (z := 1) (cs := ints (bsl n m)) rfl ⟨.inr ⟨2, 0, _, by simp, rfl, by simp⟩, rfl, rfl, by simp, ?_, ?_⟩ ?_
  · intro a ha
    simp only [List.mem_cons, List.not_mem_nil, or_false] at ha
    rcases ha with rfl | rfl | rfl <;> rfl
  · intro x hx a ha
    simp only [List.mem_cons, List.not_mem_nil, or_false] at hx
    rcases hx with rfl | rfl | rfl
    · simp only [List.mem_cons, List.not_mem_nil, or_false] at ha
      rcases ha with rfl | rfl <;> rfl
    · simp only [ints, List.mem_map] at ha
      obtain ⟨y, _, rfl⟩ := ha
      rfl
    · simp only [List.mem_cons, List.not_mem_nil, or_false] at ha
      rcases ha with rfl | rfl | rfl | rfl
      · rfl
      · rfl
      · simp [tOk]
      · rfl
  · have e4 : (hT n m (eR n m S) (bsl n m)).thaw 0 (ints (bsl n m)) = hG n m (eR n m S) (bsl n m) 1 := by
      simp only [H.thaw, List.map_cons, List.map_nil, e3, List.take_zero]
      simp [thw]
      exact e3 _
    show LoopS _ _ _ _ ((v58 m).map (thw 0 3)) _ _
    rw [e2, e4]; exact lp
abbrev reach (n m : Nat) (S : List Int) : Prop := ∀ j, j < n → ∃ i, i < m ∧ bS S i j = true
theorem r58 (n m : Nat) (S : List Int) (r : Room) (hr : rok S r) (hn : nm n m) (hS : setsOk n m S) (h1 : 1 ≤ m) (hb : reach n m S) :
    Body (En6 (L58 n m S r hr hn hS h1)) M58 Tryd.f58 [I (n : Nat), .sl (ints S) m r] .nil (.agg [I (lpV n m (bS S)).1, I (lpV n m (bS S)).2], .nil) := by
  obtain ⟨K, F, h0, hF, hK, hg⟩ := ends hn.2.1 hb (start_good hS)
  have lp := lp58t n m S r hr hn hS h1 (bS S) K F h0 hF hK hg
  have hgK := hg K (Nat.le_refl K)
  have hc := hgK.cert hK
  have hE := hgK.eqs hn
  generalize F K = T at lp hgK hc hE
  obtain ⟨R, B, s⟩ := T
  simp only at lp hc hE
  rw [hc.val]
  have hcl := hE.cl m (n + m) (Nat.le_refl m) (Nat.le_refl _)
  have hz0 := hc.nn
  have hs0 := hc.1
  have hs1 : s ≤ 5040 := by obtain ⟨⟨N, σ, hL⟩, _⟩ := hgK; exact hL.s_le hn.2.1
  have ev0 : IntKind.i64.wrap (0 - R.getD (m * wdt n m + (n + m)) i0) = -cel n m R m (n + m) := by
    rw [Int.zero_sub]
    have : sml' (R.getD (m * wdt n m + (n + m)) i0) := hcl
    obtain ⟨_, _⟩ := this
    exact wr _ (by omega) (by omega)
  have hz1 : -cel n m R m (n + m) ≤ 5040 := by
    have : sml' (cel n m R m (n + m)) := hcl
    obtain ⟨_, _⟩ := this; omega
  generalize -cel n m R m (n + m) = z at *
  have ev1 := w_pred hn
  have hi1 := hsG n m m R B s (Nat.le_refl m)
  have x1 : n + m < wdt n m := by simp only [wdt]; omega
  have i1 := wd_ix hE (i := m) (c := n + m) (Nat.le_refl m) (Nat.le_refl _)
  have p85 : h58 = h58 := rfl
  have p70 : nn6 z ∧ nn6 s := ⟨⟨hz0, by omega⟩, by omega, by omega⟩
  have hgp : 0 < Nat.gcd z.toNat s.toNat := Nat.gcd_pos_of_pos_right _ (by omega)
  have g0 : gcI z s ≠ 0 := by simp only [gcI]; omega
  have t1 : z.tdiv (gcI z s) = (low z s).1 := by
    simp only [low, gcI]
    obtain ⟨Z, rfl⟩ : ∃ Z : Nat, z = Z := ⟨z.toNat, by omega⟩
    simp only [Int.toNat_natCast, Int.ofNat_tdiv]
  have t2 : s.tdiv (gcI z s) = (low z s).2 := by
    simp only [low, gcI]
    obtain ⟨Z, rfl⟩ : ∃ Z : Nat, s = Z := ⟨s.toNat, by omega⟩
    simp only [Int.toNat_natCast, Int.ofNat_tdiv]
  have m1 := tr_small (x := z) (s := gcI z s) (by omega)
  have m2 := tr_small (x := s) (s := gcI z s) (by omega)
  refine body_s ([Ans.o (Orc.val 11 (AV.ptr 2 0) (H.mk [[I 0, I 0], ints (eR n m S), [AV.msl 1 0 ((m + (1 : Nat)) * wdt n m) ((m + (1 : Nat)) * wdt n m) (1 : Nat), I (↑(wdt n m) : Int), AV.sl (ints (bsl n m)) m (Room.tok 0 1), I 1]] [m] [])), Ans.loop [1, 4, 5] [Out.mk Unit (AX.exit 0) [1, 4, 5] (fun x => True) (fun x => v58 m) (fun x => hG n m (R, B, s).fst (R, B, s).snd.fst (R, B, s).snd.snd) fun y => [Ans.o (Orc.val 25 (AV.msl 1 (m * wdt n m) (wdt n m) (wdt n m) (1 : Nat)) (hG n m R B s)), Ans.o (Orc.val 30 (I (↑(n + m) : Int)) H.nil), Ans.o (Orc.val 31 (AV.ptr 1 (m * wdt n m + (n + m))) H.nil), Ans.o (Orc.val 32 (I (R.getD (m * wdt n m + (n + m)) i0)) H.nil), Ans.o (Orc.val 33 (I z) H.nil), Ans.o (Orc.val 39 (I (gcI z s)) (hG n m R B s))]]]) (aCall (Sof (L58 n m S r hr hn hS h1)) (AV.fn (Fn.func 85) [] []) [I (↑n : Int), AV.sl (ints S) m r] (H.mk [[I 0, I 0]] [] []) = some (AV.ptr 2 0, H.mk [[I 0, I 0], ints (eR n m S), [AV.msl 1 0 ((m + (1 : Nat)) * wdt n m) ((m + (1 : Nat)) * wdt n m) (1 : Nat), I (↑(wdt n m) : Int), AV.sl (ints (bsl n m)) m (Room.tok 0 1), I 1]] [m] []) ∧ LoopS (En6 (L58 n m S r hr hn hS h1)) (loopAt Tryd.f58 0) 50 [1, 4, 5] [AV.sl (ints S) m r, AV.ptr 0 0, AV.ptr 2 0] (H.mk [[I 0, I 0], ints (eR n m S), [AV.msl 1 0 ((m + (1 : Nat)) * wdt n m) ((m + (1 : Nat)) * wdt n m) (1 : Nat), I (↑(wdt n m) : Int), AV.sl (ints (bsl n m)) m (Room.tok 0 1), I 1]] [m] []) [Out.mk Unit (AX.exit 0) [1, 4, 5] (fun x => True) (fun x => v58 m) (fun x => hG n m (R, B, s).fst (R, B, s).snd.fst (R, B, s).snd.snd) fun y => [Ans.o (Orc.val 25 (AV.msl 1 (m * wdt n m) (wdt n m) (wdt n m) (1 : Nat)) (hG n m R B s)), Ans.o (Orc.val 30 (I (↑(n + m) : Int)) H.nil), Ans.o (Orc.val 31 (AV.ptr 1 (m * wdt n m + (n + m))) H.nil), Ans.o (Orc.val 32 (I (R.getD (m * wdt n m + (n + m)) i0)) H.nil), Ans.o (Orc.val 33 (I z) H.nil), Ans.o (Orc.val 39 (I (gcI z s)) (hG n m R B s))]] ∧ (∀ (y : Unit), True → ∀ (u : Nat → AV), aCall (Sof (L58 n m S r hr hn hS h1)) (AV.fn (Fn.func 89) [] []) [AV.ptr 2 0, I (↑m : Int)] (H.mk [[I 0, I 0], ints (R, B, s).fst, [AV.msl 1 0 ((m + (1 : Nat)) * wdt n m) ((m + (1 : Nat)) * wdt n m) (1 : Nat), I (↑(wdt n m) : Int), AV.msl 3 0 m (9223372036854775808 : Nat) (1 : Nat), I (R, B, s).snd.snd], ints (R, B, s).snd.fst] [] []) = some (AV.msl 1 (m * wdt n m) (wdt n m) (wdt n m) (1 : Nat), H.mk [[I 0, I 0], ints R, [AV.msl 1 0 ((m + (1 : Nat)) * wdt n m) ((m + (1 : Nat)) * wdt n m) (1 : Nat), I (↑(wdt n m) : Int), AV.msl 3 0 m (9223372036854775808 : Nat) (1 : Nat), I s], ints B] [] []) ∧ aBin Tryd.prog BinOp.sub (3 : Nat) (I (↑(wdt n m) : Int)) (I 1) = some (I (↑(n + m) : Int)) ∧ aIndexAddr Tryd.prog 22 (AV.msl 1 (m * wdt n m) (wdt n m) (wdt n m) (1 : Nat)) (I (↑(n + m) : Int)) = some (AV.ptr 1 (m * wdt n m + (n + m))) ∧ aLoad Tryd.prog 3 (List.drop (m * wdt n m + (n + m)) (ints R)) = some (I (R.getD (m * wdt n m + (n + m)) i0)) ∧ aUn UnOp.neg (I (R.getD (m * wdt n m + (n + m)) i0)) = some (I z) ∧ aCall (Sof (L58 n m S r hr hn hS h1)) (AV.fn (Fn.func 70) [] []) [I z, I s] (hG n m R B s) = some (I (gcI z s), H.mk [[I 0, I 0], ints R, [AV.msl 1 0 ((m + (1 : Nat)) * wdt n m) ((m + (1 : Nat)) * wdt n m) (1 : Nat), I (↑(wdt n m) : Int), AV.msl 3 0 m (9223372036854775808 : Nat) (1 : Nat), I s], ints B] [] []) ∧ gcI z s ≠ (0 : Int) ∧ IntKind.i64.wrap (z.tdiv (gcI z s)) = z.tdiv (gcI z s) ∧ gcI z s ≠ (0 : Int) ∧ IntKind.i64.wrap (s.tdiv (gcI z s)) = s.tdiv (gcI z s) ∧ (AV.agg [I (z.tdiv (gcI z s)), I (s.tdiv (gcI z s))], H.mk [] [] []) = (AV.agg [I (low z s).fst, I (low z s).snd], H.mk [] [] [])) ∧ True) (by kernel_rfl) ?_
  refine ⟨acall_hit (c := c85 n m S r hr hn hS h1) () _ rfl p85, ?_⟩
  refine ⟨lp, ?_⟩
  refine And.intro ?_ ?_
  · skip
    intro y
    intro w1
    intro u
    refine ⟨acall_hit (c := g89 n m hn) (m : Nat) _ rfl hi1, ?_⟩
    refine ⟨told_sub (by with_reducible assumption), ?_⟩
    refine ⟨ixm_map (by kernel_rfl) x1, ?_⟩
    refine ⟨ldm_ints (by kernel_rfl) (by kernel_rfl) i1, ?_⟩
    refine ⟨told_int rfl ev0, ?_⟩
    refine ⟨acall_hit (c := c70.to) (z, s) _ rfl p70, ?_⟩
    refine ⟨by first | with_reducible assumption | omega | assumption, ?_⟩
    refine ⟨wr _ (by omega) (by omega), ?_⟩
    refine ⟨by first | with_reducible assumption | omega | assumption, ?_⟩
    refine ⟨wr _ (by omega) (by omega), ?_⟩
    rw [t1, t2]
  · skip
    trivial
end Go.Proofs.Sur

