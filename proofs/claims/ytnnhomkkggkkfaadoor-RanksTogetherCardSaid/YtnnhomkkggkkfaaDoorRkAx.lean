/- Layer 2: in the best order parts stand together. -/
import Derived.Test.YtnnhomkkggkkfaaDoorRkAw
import Derived.Test.YtnnhomkkggkkfaaDoorRkI
import Derived.KernelRfl
set_option linter.unusedSimpArgs false
set_option linter.unusedVariables false
set_option linter.unnecessarySimpa false
set_option maxHeartbeats 4000000
set_option maxRecDepth 100000
namespace Go.Proofs.Rnk
open Go Go.VM
open Go.Proofs.Sur (andn andn_bit andn_le i_wrap i_and i_or i_xor i_andn i_shl i_shr bit_01)

theorem pw_shlO {x : Int} (h0 : 0 ≤ x) (h : x ≤ 62) : IntKind.i64.wrap (1 * 2 ^ min x.toNat IntKind.i64.bits) = ((2 ^ x.toNat : Nat) : Int) := by
  obtain ⟨n, rfl⟩ : ∃ n : Nat, x = n := ⟨x.toNat, by omega⟩
  exact pw_shl (n := n) (by omega)
theorem OB.pos {n : Nat} {o : List Int} (h : OB n o) {k : Nat} (hk : k < n) : 0 ≤ o.getD k i0 ∧ o.getD k i0 < (n : Int) ∧ ofn o k < n ∧ ((ofn o k : Nat) : Int) = o.getD k i0 := by
  have hd := h.h.h k (by rw [h.le]; exact hk)
  have h1 := hd.a; have h2 := hd.b
  simp only [ofn]; omega
theorem OB.inj {n : Nat} {o : List Int} (h : OB n o) {j k : Nat} (hj : j < k) (hk : k < n) : ofn o j ≠ ofn o k := fun e => by
  have hd := (h.h.h k (by rw [h.le]; exact hk)).d
  have h1 := (h.pos (show j < n by omega)).2.2.2
  have h2 := (h.pos hk).2.2.2
  apply hd
  have hjl : j < o.length := by rw [h.le]; omega
  have e' : o.getD j i0 = o.getD k i0 := by omega
  rw [← e']
  have : (o.take k)[j]? = some (o.getD j i0) := by
    rw [List.getElem?_take, if_pos hj, List.getD_eq_getElem?_getD, List.getElem?_eq_getElem hjl]; rfl
  exact List.mem_of_getElem? this
abbrev o39 (t : List Int) (r : Room) (o : List Int) (q : Room) : List Out := [.mk Unit .ret [4] (fun _ => False) (fun _ => [.bool false]) (fun _ => .nil) (fun _ => []), .mk Unit (.exit 0) [0, 1] (fun _ => True) (fun _ => [ls t r, ls o q]) (fun _ => .nil) (fun _ => [])]
theorem simp39 : allSimpleM none1 (loopAt Tryd.f39 0) = true := by kernel_rfl
theorem lp39 (t : List Int) (r : Room) (h8 : t.length ≤ 8) (o : List Int) (q : Room) (hq : rok o q) (ho : OB t.length o) :
    LoopS (En6 []) (loopAt Tryd.f39 0) 39 [0, 1, 5, 8, 9, 10] [ls t r, ls o q, I 0, ls o q, I o.length, I 0] .nil (o39 t r o q) := by
  have hR : Rests (En6 []) none1 := rests mixed .nil
  have hlen := ho.le
  refine loop_s hR simp39 none (by intro _ h; cases h) (fun k vs H => H = .nil ∧ vs = [ls t r, ls o q, I (sO (ofn o) 0 k : Nat), ls o q, I o.length, I k]) o.length ⟨rfl, rfl⟩ (by intro _ h; cases h) ?_
  rintro k vs h' hk ⟨rfl, rfl⟩
  by_cases hz : (k : Int) < o.length
  · have hz' : k < o.length := by omega
    have hri := rok_idx hq hz'
    have ev0 := wj1 (j := k) (by omega)
    obtain ⟨d0, d1, d2, d3⟩ := ho.pos (k := k) (by omega)
    have hS : sO (ofn o) 0 k < 256 := sO_lt fun i hi => by rw [Nat.zero_add]; have := (ho.pos (k := i) (by omega)).2.2.1; omega
    have hs8 : s8 ((sO (ofn o) 0 k : Nat) : Int) := by simp only [s8]; omega
    have hnb : bi ((sO (ofn o) 0 k : Nat) : Int) (ofn o k) = false := by
      simp only [bi, Int.toNat_natCast]
      cases c : (sO (ofn o) 0 k).testBit (ofn o k)
      · rfl
      · obtain ⟨i, h1, h2⟩ := (sO_bit k).1 c
        rw [Nat.zero_add] at h2
        exact absurd h2 (ho.inj h1 (by omega))
    obtain ⟨ev1, ev2⟩ := i_bit0 hs8 (show ofn o k ≤ 64 by omega) hnb
    rw [d3] at ev1
    have ev3 := pw_shlO d0 (by omega)
    have h2 : 2 ^ (o.getD k i0).toNat < 2 ^ 8 := Nat.pow_lt_pow_right (by decide) (by omega)
    have ev4 : IntKind.i64.wrap ((BitVec.ofInt IntKind.i64.bits ((sO (ofn o) 0 k : Nat) : Int) ||| BitVec.ofInt IntKind.i64.bits ((2 ^ (o.getD k i0).toNat : Nat) : Int)).toNat : Int) = ((sO (ofn o) 0 (k + 1) : Nat) : Int) := by
      have := i_or (a := sO (ofn o) 0 k) (b := 2 ^ (o.getD k i0).toNat) (by omega) (by omega)
      rw [this, sO, Nat.zero_add]
    refine ⟨[Ans.o (Orc.b true), Ans.o (Orc.val 12 (AV.cptr (ints (List.drop k o))) H.nil), Ans.o (Orc.val 13 (I (o.getD k i0)) H.nil), Ans.o (Orc.b false), Ans.o (Orc.b false), Ans.o (Orc.val 25 (I (↑((↑(sO (ofn o) (0 : Nat) k) : Int).toNat >>> ofn o k) : Int)) H.nil), Ans.o (Orc.val 26 (I 0) H.nil), Ans.o Orc.dflt, Ans.o (Orc.val 31 (I (↑((2 : Nat) ^ (o.getD k i0).toNat) : Int)) H.nil), Ans.o (Orc.val 32 (I (↑(sO (ofn o) (0 : Nat) (k + (1 : Nat))) : Int)) H.nil), Ans.o (Orc.val 33 (I (↑(k + (1 : Nat)) : Int)) H.nil)], fun u => of_eq ((↑k : Int) < (↑o.length : Int) ∧ aIndexAddr Tryd.prog (22 : Nat) (AV.sl (ints o) o.length q) (I (↑k : Int)) = some (AV.cptr (ints (List.drop k o))) ∧ aLoad Tryd.prog (3 : Nat) (ints (List.drop k o)) = some (I (o.getD k i0)) ∧ (0 : Int) ≤ o.getD k i0 ∧ o.getD k i0 < (↑t.length : Int) ∧ aBin Tryd.prog BinOp.shr (3 : Nat) (I (↑(sO (ofn o) (0 : Nat) k) : Int)) (I (o.getD k i0)) = some (I (↑((↑(sO (ofn o) (0 : Nat) k) : Int).toNat >>> ofn o k) : Int)) ∧ aBin Tryd.prog BinOp.and (3 : Nat) (I (↑((↑(sO (ofn o) (0 : Nat) k) : Int).toNat >>> ofn o k) : Int)) (I 1) = some (I 0) ∧ aBin Tryd.prog BinOp.shl (3 : Nat) (I 1) (I (o.getD k i0)) = some (I (↑((2 : Nat) ^ (o.getD k i0).toNat) : Int)) ∧ aBin Tryd.prog BinOp.or (3 : Nat) (I (↑(sO (ofn o) (0 : Nat) k) : Int)) (I (↑((2 : Nat) ^ (o.getD k i0).toNat) : Int)) = some (I (↑(sO (ofn o) (0 : Nat) (k + (1 : Nat))) : Int)) ∧ aBin Tryd.prog BinOp.add (3 : Nat) (I (↑k : Int)) (I 1) = some (I (↑(k + (1 : Nat)) : Int)) ∧ (39 : Nat) = (39 : Nat) ∧ k < o.length ∧ Keep (H.mk [] [] [] = H.mk [] [] [] ∧ [AV.sl (ints t) t.length r, AV.sl (ints o) o.length q, I (↑(sO (ofn o) (0 : Nat) (k + (1 : Nat))) : Int), AV.sl (ints o) o.length q, I (↑o.length : Int), I (↑(k + (1 : Nat)) : Int)] = [AV.sl (ints t) t.length r, AV.sl (ints o) o.length q, I (↑(sO (ofn o) (0 : Nat) (k + (1 : Nat))) : Int), AV.sl (ints o) o.length q, I (↑o.length : Int), I (↑(k + (1 : Nat)) : Int)])) (by kernel_rfl) ?_⟩
    refine ⟨by first | with_reducible assumption | omega | assumption, ?_⟩
    refine ⟨ix_ints (by kernel_rfl) hz' hri, ?_⟩
    refine ⟨ld_ints (by kernel_rfl) (by kernel_rfl) hz', ?_⟩
    refine ⟨by first | with_reducible assumption | omega | assumption, ?_⟩
    refine ⟨by first | with_reducible assumption | omega | assumption, ?_⟩
    refine ⟨by first | exact told_shr (by first | exact Int.natCast_nonneg _ | omega) (by with_reducible assumption) | exact told_shr (by omega) rfl, ?_⟩
    refine ⟨told_and (by with_reducible assumption), ?_⟩
    refine ⟨by first | exact told_shl (by first | exact Int.natCast_nonneg _ | omega) (by with_reducible assumption) | exact told_shl (by omega) rfl, ?_⟩
    refine ⟨told_or (by with_reducible assumption), ?_⟩
    refine ⟨told_add (by with_reducible assumption), ?_⟩
    refine ⟨by first | with_reducible assumption | omega | assumption, ?_⟩
    refine ⟨by first | with_reducible assumption | omega | assumption, ?_⟩
    exact ⟨rfl, rfl⟩
  · have hz : (o.length : Int) ≤ k := by omega
    have e : k = o.length := by omega
    subst e
    refine ⟨[Ans.o (Orc.b false)], fun u => of_eq ((↑o.length : Int) ≤ (↑o.length : Int) ∧ (39 : Nat) = (39 : Nat) ∧ hits [Out.mk Unit AX.ret [(4 : Nat)] (fun x => False) (fun x => [AV.bool false]) (fun x => H.nil) fun x => [], Out.mk Unit (AX.exit (0 : Nat)) [(0 : Nat), (1 : Nat)] (fun x => True) (fun x => [ls t r, ls o q]) (fun x => H.nil) fun x => []] (AX.exit (0 : Nat)) [AV.sl (ints t) t.length r, AV.sl (ints o) o.length q, u (2 : Nat), u (3 : Nat), u (4 : Nat), I (↑(sO (ofn o) (0 : Nat) o.length) : Int), u (6 : Nat), u (7 : Nat), AV.sl (ints o) o.length q, I (↑o.length : Int), I (↑o.length : Int), AV.bool false, u (12 : Nat), u (13 : Nat), u (14 : Nat), u (15 : Nat), u (16 : Nat), u (17 : Nat), u (18 : Nat), u (19 : Nat), u (20 : Nat), u (21 : Nat), u (22 : Nat), u (23 : Nat), u (24 : Nat), u (25 : Nat), u (26 : Nat), u (27 : Nat), u (28 : Nat), u (29 : Nat), u (30 : Nat), u (31 : Nat), u (32 : Nat), u (33 : Nat), u (34 : Nat), u (35 : Nat), u (36 : Nat), u (37 : Nat), u (38 : Nat)] (H.mk [] [] [])) (by kernel_rfl) ?_⟩
    refine ⟨by first | with_reducible assumption | omega | assumption, ?_⟩
    refine ⟨by first | with_reducible assumption | omega | assumption, ?_⟩
    exact .inr (.inl ⟨(), trivial, rfl, rfl, rfl⟩)
theorem ok39 : FokM Tryd.prog none1 39 Tryd.f39 := ⟨mixed, by kernel_rfl, by kernel_rfl, by kernel_rfl, by kernel_rfl⟩
theorem r39 (t : List Int) (r : Room) (h8 : t.length ≤ 8) (o : List Int) (q : Room) (hq : rok o q) (ho : OB t.length o) : Body (En6 []) none1 Tryd.f39 [ls t r, ls o q] .nil (.bool true, .nil) := by
  have lp := lp39 t r h8 o q hq ho
  have c0 : (o.length : Int) = t.length := by have := ho.le; omega
  refine body_s ([Ans.loop [(0 : Nat), (1 : Nat), (5 : Nat), (8 : Nat), (9 : Nat), (10 : Nat)] [Out.mk Unit AX.ret [(4 : Nat)] (fun x => False) (fun x => [AV.bool false]) (fun x => H.nil) fun y => [], Out.mk Unit (AX.exit (0 : Nat)) [(0 : Nat), (1 : Nat)] (fun x => True) (fun x => [ls t r, ls o q]) (fun x => H.nil) fun y => [Ans.o (Orc.b true)]]]) (LoopS (Env.mk Tryd.prog (Sof (P := Tryd.prog) []) (Pof (P := Tryd.prog) []) H.nil.base (300 : Nat)) (loopAt Tryd.f39 (0 : Nat)) (39 : Nat) [(0 : Nat), (1 : Nat), (5 : Nat), (8 : Nat), (9 : Nat), (10 : Nat)] [AV.sl (ints t) t.length r, AV.sl (ints o) o.length q, I 0, AV.sl (ints o) o.length q, I (↑o.length : Int), I 0] (H.mk [] [] []) [Out.mk Unit AX.ret [(4 : Nat)] (fun x => False) (fun x => [AV.bool false]) (fun x => H.nil) fun y => [], Out.mk Unit (AX.exit (0 : Nat)) [(0 : Nat), (1 : Nat)] (fun x => True) (fun x => [ls t r, ls o q]) (fun x => H.nil) fun y => [Ans.o (Orc.b true)]] ∧ (∀ (y : Unit), False → ∀ (u : Nat → AV), (AV.bool false, H.mk [] [] []) = (AV.bool true, H.mk [] [] [])) ∧ (∀ (y : Unit), True → ∀ (u : Nat → AV), (↑o.length : Int) = (↑t.length : Int) ∧ (AV.bool true, H.mk [] [] []) = (AV.bool true, H.mk [] [] [])) ∧ True) (by kernel_rfl) ?_
  refine ⟨lp, ?_⟩
  refine And.intro ?_ ?_
  · skip
    intro y
    intro w1
    intro u
    first | rfl | (exfalso; assumption)
  · skip
    refine And.intro ?_ ?_
    · skip
      intro y
      intro w1
      intro u
      refine ⟨by first | with_reducible assumption | omega | assumption, ?_⟩
      first | rfl | (exfalso; assumption)
    · skip
      trivial
/-- 'IsOrder' of an order -/
noncomputable def c39 : PCtr Tryd.prog := sctr ok39 (X := (List Int × Room) × List Int × Room) (fun x => [ls x.1.1 x.1.2, ls x.2.1 x.2.2]) (fun x => x.1.1.length ≤ 8 ∧ OB x.1.1.length x.2.1 ∧ rok x.2.1 x.2.2) (fun _ => .bool true)
  (by intro x y e _ _; rfl) (fun x => by simp [AV.bnds, AV.bnd, AV.wk, rm_wk_bnd]) (fun x => rfl) (fun x hx => ⟨_, _, _, .nil, r39 x.1.1 x.1.2.wk hx.1 x.2.1 x.2.2.wk (by simpa using hx.2.2) hx.2.1⟩)
/-- the best order and the parts, as lists -/
structure OPs (t o l : List Int) (ro rl : Room) : Prop where
  ol : o.length = t.length
  og : ∀ k, k < t.length → o.getD k i0 = ((bo t k : Nat) : Int)
  or : rok o ro
  ll : l.length = mP t
  lg : ∀ k, k < mP t → l.getD k i0 = ((pp t (rst t k) : Nat) : Int)
  lr : rok l rl
noncomputable abbrev cs16 : List (Ctr Tryd.prog) := [c19q.to, c33t.to, c37t.to, c21.to, c39.to, c27.to, c24.to]
theorem ct16 : Ctrs Tryd.prog none1 cs16 := .pure _ (.pure _ (.pure _ (.pure _ (.pure _ (.pure _ (.pure _ .nil))))))
abbrev o16b (t o l : List Int) (r ro rl : Room) (a M k : Nat) (x : Int) : List Out := [.mk Unit .ret [2] (fun _ => False) (fun _ => [.bool false]) (fun _ => .nil) (fun _ => []), .mk Unit (.exit 2) [0, 5, 7, 8, 10, 11, 50, 51, 52] (fun _ => True) (fun _ => [ls t r, ls o ro, I (a + pc x.toNat : Nat), I M, I x, I (sO (bo t) a (pc x.toNat) : Nat), ls l rl, I l.length, I k]) (fun _ => .nil) (fun _ => [])]
theorem simp16b : allSimpleM none1 (loopAt Tryd.f16 1) = true := by kernel_rfl
theorem lp16b (t o l : List Int) (r ro rl : Room) (hop : OPs t o l ro rl) (h : Tn t) (a M k : Nat) (x : Int) (hle : a + pc x.toNat ≤ t.length) :
    LoopS (En6 cs16) (loopAt Tryd.f16 1) 133 [0, 5, 7, 8, 10, 11, 50, 51, 52, 72, 73] [ls t r, ls o ro, I a, I M, I x, I 0, ls l rl, I l.length, I k, I (pc x.toNat : Nat), I 0] .nil (o16b t o l r ro rl a M k x) := by
  have hR : Rests (En6 cs16) none1 := rests mixed ct16
  have h8 := h.s.2
  refine loop_s hR simp16b none (by intro _ h; cases h) (fun j vs H => H = .nil ∧ vs = [ls t r, ls o ro, I (a + j : Nat), I M, I x, I (sO (bo t) a j : Nat), ls l rl, I l.length, I k, I (pc x.toNat : Nat), I j]) (pc x.toNat) ⟨rfl, rfl⟩ (by intro _ h; cases h) ?_
  rintro j vs h' hj ⟨rfl, rfl⟩
  by_cases hz : (j : Int) < ((pc x.toNat : Nat) : Int)
  · have hz' : j < pc x.toNat := by omega
    have haj : a + j < t.length := by omega
    have haj' : a + j < o.length := by rw [hop.ol]; exact haj
    have hri := rok_idx hop.or haj'
    have ev0 := wj1 (j := j) (by omega)
    have ev5 : IntKind.i64.wrap (((a + j : Nat) : Int) + 1) = ((a + (j + 1) : Nat) : Int) := by rw [wj1 (by omega)]; omega
    have c0 : ((a + j : Nat) : Int) < (o.length : Int) := by omega
    have hb := bo_lt h haj
    have hol := hop.ol
    have hg := hop.og _ haj
    have ev1 : IntKind.i64.wrap (1 * 2 ^ min (o.getD (a + j) i0).toNat IntKind.i64.bits) = ((2 ^ bo t (a + j) : Nat) : Int) := by rw [hg]; exact pw_shl (by omega)
    have h2 : 2 ^ bo t (a + j) < 2 ^ 8 := Nat.pow_lt_pow_right (by decide) (by omega)
    have hS : sO (bo t) a j < 256 := sO_lt fun i hi => by have := bo_lt h (k := a + i) (by omega); omega
    have ev2 : IntKind.i64.wrap ((BitVec.ofInt IntKind.i64.bits ((sO (bo t) a j : Nat) : Int) ||| BitVec.ofInt IntKind.i64.bits ((2 ^ bo t (a + j) : Nat) : Int)).toNat : Int) = ((sO (bo t) a (j + 1) : Nat) : Int) := i_or (by omega) (by omega)
    have d0 : 0 ≤ o.getD (a + j) i0 := by rw [hg]; omega
    refine ⟨[Ans.o (Orc.b true), Ans.o (Orc.b false), Ans.o (Orc.val 82 (AV.cptr (ints (List.drop (a + j) o))) H.nil), Ans.o (Orc.val 83 (I (o.getD (a + j) i0)) H.nil), Ans.o (Orc.val 84 (I (↑((2 : Nat) ^ bo t (a + j)) : Int)) H.nil), Ans.o (Orc.val 85 (I (↑(sO (bo t) a (j + (1 : Nat))) : Int)) H.nil), Ans.o (Orc.val 87 (I (↑(a + (j + (1 : Nat))) : Int)) H.nil), Ans.o (Orc.val 88 (I (↑(j + (1 : Nat)) : Int)) H.nil)], fun u => of_eq ((↑j : Int) < (↑(pc x.toNat) : Int) ∧ (↑(a + j) : Int) < (↑o.length : Int) ∧ aIndexAddr Tryd.prog (22 : Nat) (AV.sl (ints o) o.length ro) (I (↑(a + j) : Int)) = some (AV.cptr (ints (List.drop (a + j) o))) ∧ aLoad Tryd.prog (3 : Nat) (ints (List.drop (a + j) o)) = some (I (o.getD (a + j) i0)) ∧ aBin Tryd.prog BinOp.shl (3 : Nat) (I 1) (I (o.getD (a + j) i0)) = some (I (↑((2 : Nat) ^ bo t (a + j)) : Int)) ∧ aBin Tryd.prog BinOp.or (3 : Nat) (I (↑(sO (bo t) a j) : Int)) (I (↑((2 : Nat) ^ bo t (a + j)) : Int)) = some (I (↑(sO (bo t) a (j + (1 : Nat))) : Int)) ∧ aBin Tryd.prog BinOp.add (3 : Nat) (I (↑(a + j) : Int)) (I 1) = some (I (↑(a + (j + (1 : Nat))) : Int)) ∧ aBin Tryd.prog BinOp.add (3 : Nat) (I (↑j : Int)) (I 1) = some (I (↑(j + (1 : Nat)) : Int)) ∧ (133 : Nat) = (133 : Nat) ∧ j < pc x.toNat ∧ Keep (H.mk [] [] [] = H.mk [] [] [] ∧ [AV.sl (ints t) t.length r, AV.sl (ints o) o.length ro, I (↑(a + (j + (1 : Nat))) : Int), I (↑M : Int), I x, I (↑(sO (bo t) a (j + (1 : Nat))) : Int), AV.sl (ints l) l.length rl, I (↑l.length : Int), I (↑k : Int), I (↑(pc x.toNat) : Int), I (↑(j + (1 : Nat)) : Int)] = [AV.sl (ints t) t.length r, AV.sl (ints o) o.length ro, I (↑(a + (j + (1 : Nat))) : Int), I (↑M : Int), I x, I (↑(sO (bo t) a (j + (1 : Nat))) : Int), AV.sl (ints l) l.length rl, I (↑l.length : Int), I (↑k : Int), I (↑(pc x.toNat) : Int), I (↑(j + (1 : Nat)) : Int)])) (by kernel_rfl) ?_⟩
    refine ⟨by first | with_reducible assumption | omega | assumption, ?_⟩
    refine ⟨by first | with_reducible assumption | omega | assumption, ?_⟩
    refine ⟨ix_ints (by kernel_rfl) haj' hri, ?_⟩
    refine ⟨ld_ints (by kernel_rfl) (by kernel_rfl) haj', ?_⟩
    refine ⟨by first | exact told_shl (by first | exact Int.natCast_nonneg _ | omega) (by with_reducible assumption) | exact told_shl (by omega) rfl, ?_⟩
    refine ⟨told_or (by with_reducible assumption), ?_⟩
    refine ⟨told_add (by with_reducible assumption), ?_⟩
    refine ⟨told_add (by with_reducible assumption), ?_⟩
    refine ⟨by first | with_reducible assumption | omega | assumption, ?_⟩
    refine ⟨by first | with_reducible assumption | omega | assumption, ?_⟩
    exact ⟨rfl, rfl⟩
  · have hz : ((pc x.toNat : Nat) : Int) ≤ j := by omega
    have e : j = pc x.toNat := by omega
    subst e
    refine ⟨[Ans.o (Orc.b false)], fun u => of_eq ((↑(pc x.toNat) : Int) ≤ (↑(pc x.toNat) : Int) ∧ (133 : Nat) = (133 : Nat) ∧ hits [Out.mk Unit AX.ret [(2 : Nat)] (fun x => False) (fun x => [AV.bool false]) (fun x => H.nil) fun x => [], Out.mk Unit (AX.exit (2 : Nat)) [(0 : Nat), (5 : Nat), (7 : Nat), (8 : Nat), (10 : Nat), (11 : Nat), (50 : Nat), (51 : Nat), (52 : Nat)] (fun x => True) (fun x_1 => [ls t r, ls o ro, I (↑(a + pc x.toNat) : Int), I (↑M : Int), I x, I (↑(sO (bo t) a (pc x.toNat)) : Int), ls l rl, I (↑l.length : Int), I (↑k : Int)]) (fun x => H.nil) fun x => []] (AX.exit (2 : Nat)) [AV.sl (ints t) t.length r, u (1 : Nat), u (2 : Nat), u (3 : Nat), u (4 : Nat), AV.sl (ints o) o.length ro, u (6 : Nat), I (↑(a + pc x.toNat) : Int), I (↑M : Int), u (9 : Nat), I x, I (↑(sO (bo t) a (pc x.toNat)) : Int), u (12 : Nat), u (13 : Nat), u (14 : Nat), u (15 : Nat), u (16 : Nat), u (17 : Nat), u (18 : Nat), u (19 : Nat), u (20 : Nat), u (21 : Nat), u (22 : Nat), u (23 : Nat), u (24 : Nat), u (25 : Nat), u (26 : Nat), u (27 : Nat), u (28 : Nat), u (29 : Nat), u (30 : Nat), u (31 : Nat), u (32 : Nat), u (33 : Nat), u (34 : Nat), u (35 : Nat), u (36 : Nat), u (37 : Nat), u (38 : Nat), u (39 : Nat), u (40 : Nat), u (41 : Nat), u (42 : Nat), u (43 : Nat), u (44 : Nat), u (45 : Nat), u (46 : Nat), u (47 : Nat), u (48 : Nat), u (49 : Nat), AV.sl (ints l) l.length rl, I (↑l.length : Int), I (↑k : Int), u (53 : Nat), u (54 : Nat), u (55 : Nat), u (56 : Nat), u (57 : Nat), u (58 : Nat), u (59 : Nat), u (60 : Nat), u (61 : Nat), u (62 : Nat), u (63 : Nat), u (64 : Nat), u (65 : Nat), u (66 : Nat), u (67 : Nat), u (68 : Nat), u (69 : Nat), u (70 : Nat), u (71 : Nat), I (↑(pc x.toNat) : Int), I (↑(pc x.toNat) : Int), AV.bool false, u (75 : Nat), u (76 : Nat), u (77 : Nat), u (78 : Nat), u (79 : Nat), u (80 : Nat), u (81 : Nat), u (82 : Nat), u (83 : Nat), u (84 : Nat), u (85 : Nat), u (86 : Nat), u (87 : Nat), u (88 : Nat), u (89 : Nat), u (90 : Nat), u (91 : Nat), u (92 : Nat), u (93 : Nat), u (94 : Nat), u (95 : Nat), u (96 : Nat), u (97 : Nat), u (98 : Nat), u (99 : Nat), u (100 : Nat), u (101 : Nat), u (102 : Nat), u (103 : Nat), u (104 : Nat), u (105 : Nat), u (106 : Nat), u (107 : Nat), u (108 : Nat), u (109 : Nat), u (110 : Nat), u (111 : Nat), u (112 : Nat), u (113 : Nat), u (114 : Nat), u (115 : Nat), u (116 : Nat), u (117 : Nat), u (118 : Nat), u (119 : Nat), u (120 : Nat), u (121 : Nat), u (122 : Nat), u (123 : Nat), u (124 : Nat), u (125 : Nat), u (126 : Nat), u (127 : Nat), u (128 : Nat), u (129 : Nat), u (130 : Nat), u (131 : Nat), u (132 : Nat)] (H.mk [] [] [])) (by kernel_rfl) ?_⟩
    refine ⟨by first | with_reducible assumption | omega | assumption, ?_⟩
    refine ⟨by first | with_reducible assumption | omega | assumption, ?_⟩
    exact .inr (.inl ⟨(), trivial, rfl, rfl, rfl⟩)
abbrev o16c (t o l : List Int) (r ro rl : Room) (a M k : Nat) : List Out := [.mk Unit .ret [2] (fun _ => False) (fun _ => [.bool false]) (fun _ => .nil) (fun _ => []), .mk Unit (.exit 4) [0, 5, 7, 8, 50, 51, 52] (fun _ => True) (fun _ => [ls t r, ls o ro, I a, I M, ls l rl, I l.length, I k]) (fun _ => .nil) (fun _ => [])]
theorem simp16c : allSimpleM none1 (loopAt Tryd.f16 2) = true := by kernel_rfl
theorem lp16c (t o l : List Int) (r ro rl : Room) (hop : OPs t o l ro rl) (h : Tn t) (hr : rok t r) (a k : Nat) (x : Int) (hx : x = ((pp t (rst t k) : Nat) : Int)) :
    LoopS (En6 cs16) (loopAt Tryd.f16 2) 133 [0, 5, 7, 8, 10, 50, 51, 52, 95, 96, 97] [ls t r, ls o ro, I a, I (mtv t (k + 1) : Nat), I x, ls l rl, I l.length, I k, ls t r, I t.length, I 0] .nil (o16c t o l r ro rl a (mtv t (k + 1)) k) := by
  have hR : Rests (En6 cs16) none1 := rests mixed ct16
  have h8 := h.s.2
  refine loop_s hR simp16c none (by intro _ h; cases h) (fun i vs H => H = .nil ∧ vs = [ls t r, ls o ro, I a, I (mtv t (k + 1) : Nat), I x, ls l rl, I l.length, I k, ls t r, I t.length, I i]) t.length ⟨rfl, rfl⟩ (by intro _ h; cases h) ?_
  rintro i vs h' hj ⟨rfl, rfl⟩
  by_cases hz : (i : Int) < t.length
  · have hz' : i < t.length := by omega
    have hri := rok_idx hr hz'
    have ev0 := wj1 (j := i) (by omega)
    have hP : pp t (rst t k) < 256 := pA_lt (t := t) (j := t.length) (rst_lt h k)
    have hs8 : s8 x := by rw [hx]; simp only [s8]; omega
    have ev5 := pw_shl (n := t.length) (by omega)
    have ev6 := pw_alls (n := t.length) h8
    have hA := alls_lt h8
    have hM := mtv_lt h (k + 1)
    have hsn := h.sn i
    have ev7 : IntKind.i64.wrap ((BitVec.ofInt IntKind.i64.bits (t.getD i i0) &&& BitVec.ofInt IntKind.i64.bits ((alls t.length : Nat) : Int)).toNat : Int) = ((sn t i : Nat) : Int) := by
      have := i_and (a := sn t i) (b := alls t.length) (by omega) (by omega)
      rw [and_alls h, hsn.2] at this
      rw [hsn.2]; exact this
    have ev8 : IntKind.i64.wrap ((BitVec.ofInt IntKind.i64.bits ((alls t.length : Nat) : Int) &&& ~~~BitVec.ofInt IntKind.i64.bits ((mtv t (k + 1) : Nat) : Int)).toNat : Int) = ((rst t (k + 1) : Nat) : Int) := by
      rw [i_andn (by omega), alls_mtv h]
    cases hb : bi x i
    · obtain ⟨ev1, ev2⟩ := i_bit0 hs8 (show i ≤ 64 by omega) hb
      refine ⟨[Ans.o (Orc.b true), Ans.o (Orc.val 100 (AV.cptr (ints (List.drop i t))) H.nil), Ans.o (Orc.val 101 (I (t.getD i i0)) H.nil), Ans.o (Orc.val 104 (I (↑(x.toNat >>> i) : Int)) H.nil), Ans.o (Orc.val 105 (I 0) H.nil), Ans.o Orc.dflt, Ans.o (Orc.val 124 (I (↑(i + (1 : Nat)) : Int)) H.nil)], fun u => of_eq ((↑i : Int) < (↑t.length : Int) ∧ aIndexAddr Tryd.prog (22 : Nat) (AV.sl (ints t) t.length r) (I (↑i : Int)) = some (AV.cptr (ints (List.drop i t))) ∧ aLoad Tryd.prog (3 : Nat) (ints (List.drop i t)) = some (I (t.getD i i0)) ∧ aBin Tryd.prog BinOp.shr (3 : Nat) (I x) (I (↑i : Int)) = some (I (↑(x.toNat >>> i) : Int)) ∧ aBin Tryd.prog BinOp.and (3 : Nat) (I (↑(x.toNat >>> i) : Int)) (I 1) = some (I 0) ∧ aBin Tryd.prog BinOp.add (3 : Nat) (I (↑i : Int)) (I 1) = some (I (↑(i + (1 : Nat)) : Int)) ∧ (133 : Nat) = (133 : Nat) ∧ i < t.length ∧ Keep (H.mk [] [] [] = H.mk [] [] [] ∧ [AV.sl (ints t) t.length r, AV.sl (ints o) o.length ro, I (↑a : Int), I (↑(mtv t (k + (1 : Nat))) : Int), I x, AV.sl (ints l) l.length rl, I (↑l.length : Int), I (↑k : Int), AV.sl (ints t) t.length r, I (↑t.length : Int), I (↑(i + (1 : Nat)) : Int)] = [AV.sl (ints t) t.length r, AV.sl (ints o) o.length ro, I (↑a : Int), I (↑(mtv t (k + (1 : Nat))) : Int), I x, AV.sl (ints l) l.length rl, I (↑l.length : Int), I (↑k : Int), AV.sl (ints t) t.length r, I (↑t.length : Int), I (↑(i + (1 : Nat)) : Int)])) (by kernel_rfl) ?_⟩
      refine ⟨by first | with_reducible assumption | omega | assumption, ?_⟩
      refine ⟨ix_ints (by kernel_rfl) hz' hri, ?_⟩
      refine ⟨ld_ints (by kernel_rfl) (by kernel_rfl) hz', ?_⟩
      refine ⟨by first | exact told_shr (by first | exact Int.natCast_nonneg _ | omega) (by with_reducible assumption) | exact told_shr (by omega) rfl, ?_⟩
      refine ⟨told_and (by with_reducible assumption), ?_⟩
      refine ⟨told_add (by with_reducible assumption), ?_⟩
      refine ⟨by first | with_reducible assumption | omega | assumption, ?_⟩
      refine ⟨by first | with_reducible assumption | omega | assumption, ?_⟩
      exact ⟨rfl, rfl⟩
    · obtain ⟨ev1, ev2⟩ := i_bit1 hs8 (show i ≤ 64 by omega) hb
      have hin : (pp t (rst t k)).testBit i = true := by rw [hx] at hb; simpa [bi] using hb
      have ev9 : IntKind.i64.wrap ((BitVec.ofInt IntKind.i64.bits ((sn t i : Nat) : Int) &&& ~~~BitVec.ofInt IntKind.i64.bits ((mtv t (k + 1) : Nat) : Int)).toNat : Int) = ((rst t (k + 1) : Nat) : Int) := by
        rw [i_andn (by omega), beat_mtv h hin]
      have haa : ((rst t (k + 1) : Nat) : Int) = ((rst t (k + 1) : Nat) : Int) := rfl
      refine ⟨[Ans.o (Orc.b true), Ans.o (Orc.val 100 (AV.cptr (ints (List.drop i t))) H.nil), Ans.o (Orc.val 101 (I (t.getD i i0)) H.nil), Ans.o (Orc.val 104 (I (↑(x.toNat >>> i) : Int)) H.nil), Ans.o (Orc.val 105 (I 1) H.nil), Ans.o Orc.dflt, Ans.o (Orc.val 111 (I (↑((2 : Nat) ^ t.length) : Int)) H.nil), Ans.o (Orc.val 112 (I (↑(alls t.length) : Int)) H.nil), Ans.o (Orc.val 113 (I (↑(sn t i) : Int)) H.nil), Ans.o (Orc.val 115 (I (↑(rst t (k + (1 : Nat))) : Int)) H.nil), Ans.o (Orc.val 118 (I (↑((2 : Nat) ^ t.length) : Int)) H.nil), Ans.o (Orc.val 119 (I (↑(alls t.length) : Int)) H.nil), Ans.o (Orc.val 121 (I (↑(rst t (k + (1 : Nat))) : Int)) H.nil), Ans.o (Orc.b false), Ans.o (Orc.val 124 (I (↑(i + (1 : Nat)) : Int)) H.nil)], fun u => of_eq ((↑i : Int) < (↑t.length : Int) ∧ aIndexAddr Tryd.prog (22 : Nat) (AV.sl (ints t) t.length r) (I (↑i : Int)) = some (AV.cptr (ints (List.drop i t))) ∧ aLoad Tryd.prog (3 : Nat) (ints (List.drop i t)) = some (I (t.getD i i0)) ∧ aBin Tryd.prog BinOp.shr (3 : Nat) (I x) (I (↑i : Int)) = some (I (↑(x.toNat >>> i) : Int)) ∧ aBin Tryd.prog BinOp.and (3 : Nat) (I (↑(x.toNat >>> i) : Int)) (I 1) = some (I 1) ∧ aBin Tryd.prog BinOp.shl (3 : Nat) (I 1) (I (↑t.length : Int)) = some (I (↑((2 : Nat) ^ t.length) : Int)) ∧ aBin Tryd.prog BinOp.sub (3 : Nat) (I (↑((2 : Nat) ^ t.length) : Int)) (I 1) = some (I (↑(alls t.length) : Int)) ∧ aBin Tryd.prog BinOp.and (3 : Nat) (I (t.getD i i0)) (I (↑(alls t.length) : Int)) = some (I (↑(sn t i) : Int)) ∧ aBin Tryd.prog BinOp.andNot (3 : Nat) (I (↑(sn t i) : Int)) (I (↑(mtv t (k + (1 : Nat))) : Int)) = some (I (↑(rst t (k + (1 : Nat))) : Int)) ∧ aBin Tryd.prog BinOp.shl (3 : Nat) (I 1) (I (↑t.length : Int)) = some (I (↑((2 : Nat) ^ t.length) : Int)) ∧ aBin Tryd.prog BinOp.sub (3 : Nat) (I (↑((2 : Nat) ^ t.length) : Int)) (I 1) = some (I (↑(alls t.length) : Int)) ∧ aBin Tryd.prog BinOp.andNot (3 : Nat) (I (↑(alls t.length) : Int)) (I (↑(mtv t (k + (1 : Nat))) : Int)) = some (I (↑(rst t (k + (1 : Nat))) : Int)) ∧ (↑(rst t (k + (1 : Nat))) : Int) = (↑(rst t (k + (1 : Nat))) : Int) ∧ aBin Tryd.prog BinOp.add (3 : Nat) (I (↑i : Int)) (I 1) = some (I (↑(i + (1 : Nat)) : Int)) ∧ (133 : Nat) = (133 : Nat) ∧ i < t.length ∧ Keep (H.mk [] [] [] = H.mk [] [] [] ∧ [AV.sl (ints t) t.length r, AV.sl (ints o) o.length ro, I (↑a : Int), I (↑(mtv t (k + (1 : Nat))) : Int), I x, AV.sl (ints l) l.length rl, I (↑l.length : Int), I (↑k : Int), AV.sl (ints t) t.length r, I (↑t.length : Int), I (↑(i + (1 : Nat)) : Int)] = [AV.sl (ints t) t.length r, AV.sl (ints o) o.length ro, I (↑a : Int), I (↑(mtv t (k + (1 : Nat))) : Int), I x, AV.sl (ints l) l.length rl, I (↑l.length : Int), I (↑k : Int), AV.sl (ints t) t.length r, I (↑t.length : Int), I (↑(i + (1 : Nat)) : Int)])) (by kernel_rfl) ?_⟩
      refine ⟨by first | with_reducible assumption | omega | assumption, ?_⟩
      refine ⟨ix_ints (by kernel_rfl) hz' hri, ?_⟩
      refine ⟨ld_ints (by kernel_rfl) (by kernel_rfl) hz', ?_⟩
      refine ⟨by first | exact told_shr (by first | exact Int.natCast_nonneg _ | omega) (by with_reducible assumption) | exact told_shr (by omega) rfl, ?_⟩
      refine ⟨told_and (by with_reducible assumption), ?_⟩
      refine ⟨by first | exact told_shl (by first | exact Int.natCast_nonneg _ | omega) (by with_reducible assumption) | exact told_shl (by omega) rfl, ?_⟩
      refine ⟨told_sub (by with_reducible assumption), ?_⟩
      refine ⟨told_and (by with_reducible assumption), ?_⟩
      refine ⟨told_andn (by with_reducible assumption), ?_⟩
      refine ⟨by first | exact told_shl (by first | exact Int.natCast_nonneg _ | omega) (by with_reducible assumption) | exact told_shl (by omega) rfl, ?_⟩
      refine ⟨told_sub (by with_reducible assumption), ?_⟩
      refine ⟨told_andn (by with_reducible assumption), ?_⟩
      refine ⟨by first | with_reducible assumption | omega | assumption, ?_⟩
      refine ⟨told_add (by with_reducible assumption), ?_⟩
      refine ⟨by first | with_reducible assumption | omega | assumption, ?_⟩
      refine ⟨by first | with_reducible assumption | omega | assumption, ?_⟩
      exact ⟨rfl, rfl⟩
  · have hz : (t.length : Int) ≤ i := by omega
    have e : i = t.length := by omega
    subst e
    refine ⟨[Ans.o (Orc.b false)], fun u => of_eq ((↑t.length : Int) ≤ (↑t.length : Int) ∧ (133 : Nat) = (133 : Nat) ∧ hits [Out.mk Unit AX.ret [(2 : Nat)] (fun x => False) (fun x => [AV.bool false]) (fun x => H.nil) fun x => [], Out.mk Unit (AX.exit (4 : Nat)) [(0 : Nat), (5 : Nat), (7 : Nat), (8 : Nat), (50 : Nat), (51 : Nat), (52 : Nat)] (fun x => True) (fun x => [ls t r, ls o ro, I (↑a : Int), I (↑(mtv t (k + (1 : Nat))) : Int), ls l rl, I (↑l.length : Int), I (↑k : Int)]) (fun x => H.nil) fun x => []] (AX.exit (4 : Nat)) [AV.sl (ints t) t.length r, u (1 : Nat), u (2 : Nat), u (3 : Nat), u (4 : Nat), AV.sl (ints o) o.length ro, u (6 : Nat), I (↑a : Int), I (↑(mtv t (k + (1 : Nat))) : Int), u (9 : Nat), I x, u (11 : Nat), u (12 : Nat), u (13 : Nat), u (14 : Nat), u (15 : Nat), u (16 : Nat), u (17 : Nat), u (18 : Nat), u (19 : Nat), u (20 : Nat), u (21 : Nat), u (22 : Nat), u (23 : Nat), u (24 : Nat), u (25 : Nat), u (26 : Nat), u (27 : Nat), u (28 : Nat), u (29 : Nat), u (30 : Nat), u (31 : Nat), u (32 : Nat), u (33 : Nat), u (34 : Nat), u (35 : Nat), u (36 : Nat), u (37 : Nat), u (38 : Nat), u (39 : Nat), u (40 : Nat), u (41 : Nat), u (42 : Nat), u (43 : Nat), u (44 : Nat), u (45 : Nat), u (46 : Nat), u (47 : Nat), u (48 : Nat), u (49 : Nat), AV.sl (ints l) l.length rl, I (↑l.length : Int), I (↑k : Int), u (53 : Nat), u (54 : Nat), u (55 : Nat), u (56 : Nat), u (57 : Nat), u (58 : Nat), u (59 : Nat), u (60 : Nat), u (61 : Nat), u (62 : Nat), u (63 : Nat), u (64 : Nat), u (65 : Nat), u (66 : Nat), u (67 : Nat), u (68 : Nat), u (69 : Nat), u (70 : Nat), u (71 : Nat), u (72 : Nat), u (73 : Nat), u (74 : Nat), u (75 : Nat), u (76 : Nat), u (77 : Nat), u (78 : Nat), u (79 : Nat), u (80 : Nat), u (81 : Nat), u (82 : Nat), u (83 : Nat), u (84 : Nat), u (85 : Nat), u (86 : Nat), u (87 : Nat), u (88 : Nat), u (89 : Nat), u (90 : Nat), u (91 : Nat), u (92 : Nat), u (93 : Nat), u (94 : Nat), AV.sl (ints t) t.length r, I (↑t.length : Int), I (↑t.length : Int), AV.bool false, u (99 : Nat), u (100 : Nat), u (101 : Nat), u (102 : Nat), u (103 : Nat), u (104 : Nat), u (105 : Nat), u (106 : Nat), u (107 : Nat), u (108 : Nat), u (109 : Nat), u (110 : Nat), u (111 : Nat), u (112 : Nat), u (113 : Nat), u (114 : Nat), u (115 : Nat), u (116 : Nat), u (117 : Nat), u (118 : Nat), u (119 : Nat), u (120 : Nat), u (121 : Nat), u (122 : Nat), u (123 : Nat), u (124 : Nat), u (125 : Nat), u (126 : Nat), u (127 : Nat), u (128 : Nat), u (129 : Nat), u (130 : Nat), u (131 : Nat), u (132 : Nat)] (H.mk [] [] [])) (by kernel_rfl) ?_⟩
    refine ⟨by first | with_reducible assumption | omega | assumption, ?_⟩
    refine ⟨by first | with_reducible assumption | omega | assumption, ?_⟩
    exact .inr (.inl ⟨(), trivial, rfl, rfl, rfl⟩)
end Go.Proofs.Rnk

