/- Layer 2: players sorted by their wins. -/
import Derived.Test.YtnnhomkkggkkfaaDoorRkBb
import Derived.Test.YtnnhomkkggkkfaaDoorVm8
import Derived.KernelRfl
set_option linter.unusedSimpArgs false
set_option linter.unusedVariables false
set_option linter.unnecessarySimpa false
set_option maxHeartbeats 4000000
set_option maxRecDepth 100000
namespace Go.Proofs.Rnk
open Go Go.VM
open Go.Proofs.Sur (andn andn_bit andn_le i_wrap i_and i_or i_andn i_shl i_shr bit_01)

/-- how two numbers compare -/
def cmI (x y : Int) : Int := if x < y then -1 else if y < x then 1 else 0
theorem ok86 : FokM Tryd.prog none1 86 Tryd.f86 := ⟨mixed, by kernel_rfl, by kernel_rfl, by kernel_rfl, by kernel_rfl⟩
theorem r86 (x : Int) (y : Int) (hp : True) : Body ⟨Tryd.prog, Sof (P := Tryd.prog) [c103.to], Pof (P := Tryd.prog) [], H.nil.base, 300⟩ none1 Tryd.f86 [I x, I y] .nil (I (cmI x y), .nil) := by
  by_cases h : x < y
  · have e : cmI x y = -1 := if_pos h
    rw [e]
    refine body_s ([Ans.o (Orc.val 8 (AV.bool false) (H.mk [] [] [])), Ans.o (Orc.val 10 (AV.bool false) (H.mk [] [] [])), Ans.o (Orc.b true)]) (aCall (Sof [c103.to]) (AV.fn (Fn.func (103 : Nat)) [] []) [I x] (H.mk [] [] []) = some (AV.bool false, H.mk [] [] []) ∧ aCall (Sof [c103.to]) (AV.fn (Fn.func (103 : Nat)) [] []) [I y] (H.mk [] [] []) = some (AV.bool false, H.mk [] [] []) ∧ x < y ∧ (I (-1 : Int), H.mk [] [] []) = (I (-1 : Int), H.mk [] [] [])) (by kernel_rfl) ?_
    refine ⟨by first | exact acall_hit (c := c103.to) x _ rfl trivial | exact acall_hit (c := c103.to) y _ rfl trivial, ?_⟩
    refine ⟨by first | exact acall_hit (c := c103.to) x _ rfl trivial | exact acall_hit (c := c103.to) y _ rfl trivial, ?_⟩
    refine ⟨by first | with_reducible assumption | omega | assumption, ?_⟩
    first | with_reducible rfl | (refine bleaf_t ?_; omega) | (refine bleaf_f ?_; omega) | (refine ileaf ?_; omega) | rfl | (exfalso; omega)
  · by_cases h2 : y < x
    · have e : cmI x y = 1 := by rw [cmI, if_neg h, if_pos h2]
      rw [e]
      have h : y ≤ x := by omega
      refine body_s ([Ans.o (Orc.val 8 (AV.bool false) (H.mk [] [] [])), Ans.o (Orc.val 10 (AV.bool false) (H.mk [] [] [])), Ans.o (Orc.b false), Ans.o (Orc.b true)]) (aCall (Sof [c103.to]) (AV.fn (Fn.func (103 : Nat)) [] []) [I x] (H.mk [] [] []) = some (AV.bool false, H.mk [] [] []) ∧ aCall (Sof [c103.to]) (AV.fn (Fn.func (103 : Nat)) [] []) [I y] (H.mk [] [] []) = some (AV.bool false, H.mk [] [] []) ∧ y ≤ x ∧ y < x ∧ (I 1, H.mk [] [] []) = (I 1, H.mk [] [] [])) (by kernel_rfl) ?_
      refine ⟨by first | exact acall_hit (c := c103.to) x _ rfl trivial | exact acall_hit (c := c103.to) y _ rfl trivial, ?_⟩
      refine ⟨by first | exact acall_hit (c := c103.to) x _ rfl trivial | exact acall_hit (c := c103.to) y _ rfl trivial, ?_⟩
      refine ⟨by first | with_reducible assumption | omega | assumption, ?_⟩
      refine ⟨by first | with_reducible assumption | omega | assumption, ?_⟩
      first | with_reducible rfl | (refine bleaf_t ?_; omega) | (refine bleaf_f ?_; omega) | (refine ileaf ?_; omega) | rfl | (exfalso; omega)
    · have e : cmI x y = 0 := by rw [cmI, if_neg h, if_neg h2]
      rw [e]
      have h : y ≤ x := by omega
      have h2 : x ≤ y := by omega
      refine body_s ([Ans.o (Orc.val 8 (AV.bool false) (H.mk [] [] [])), Ans.o (Orc.val 10 (AV.bool false) (H.mk [] [] [])), Ans.o (Orc.b false), Ans.o (Orc.b false)]) (aCall (Sof [c103.to]) (AV.fn (Fn.func (103 : Nat)) [] []) [I x] (H.mk [] [] []) = some (AV.bool false, H.mk [] [] []) ∧ aCall (Sof [c103.to]) (AV.fn (Fn.func (103 : Nat)) [] []) [I y] (H.mk [] [] []) = some (AV.bool false, H.mk [] [] []) ∧ y ≤ x ∧ x ≤ y ∧ (I 0, H.mk [] [] []) = (I 0, H.mk [] [] [])) (by kernel_rfl) ?_
      refine ⟨by first | exact acall_hit (c := c103.to) x _ rfl trivial | exact acall_hit (c := c103.to) y _ rfl trivial, ?_⟩
      refine ⟨by first | exact acall_hit (c := c103.to) x _ rfl trivial | exact acall_hit (c := c103.to) y _ rfl trivial, ?_⟩
      refine ⟨by first | with_reducible assumption | omega | assumption, ?_⟩
      refine ⟨by first | with_reducible assumption | omega | assumption, ?_⟩
      first | with_reducible rfl | (refine bleaf_t ?_; omega) | (refine bleaf_f ?_; omega) | (refine ileaf ?_; omega) | rfl | (exfalso; omega)
noncomputable def c86 : PCtr Tryd.prog := sctr ok86 (X := Int × Int) (fun x => [I x.1, I x.2]) (fun x => True) (fun x => I (cmI x.1 x.2)) (by intro x y e _ _; simp [Int.natCast_inj] at e; simp [e]) (fun x => by simp [AV.bnds, AV.bnd, AV.wk, rm_wk_bnd]) (fun x => by first | rfl | (simp [AV.bnd, rm_wk_bnd]; done)  | (simp [AV.bnd, AV.bnds, rm_wk_bnd]; done) | simp [AV.bnd, AV.bnds, Room.bnd, rm_wk_bnd]) (fun x hx => ⟨_, _, _, .pure c103 (.nil), r86 (x.1) (x.2) hx⟩)
/-- the heap in which players are sorted -/
abbrev hW (T W : List Int) (n : Nat) : H := ⟨[ints T, ints W, [.msl 1 0 n noCap 1]], [], []⟩
theorem hW_closed (T W : List Int) (n : Nat) : (hW T W n).closed := ⟨rfl, rfl, fun x hx => by
  simp only [List.mem_cons, List.not_mem_nil, or_false] at hx
  rcases hx with rfl | rfl | rfl
  · exact ints_bnds _ _ _ _
  · exact ints_bnds _ _ _ _
  · rfl⟩
noncomputable abbrev EnW (l : List (Ctr Tryd.prog)) (T W : List Int) (n : Nat) : Env := ⟨Tryd.prog, Sof (P := Tryd.prog) l, Pof (P := Tryd.prog) [], (hW T W n).base, 300⟩
theorem ok93 : FokM Tryd.prog none1 93 Tryd.f93 := ⟨mixed, by kernel_rfl, by kernel_rfl, by kernel_rfl, by kernel_rfl⟩
abbrev okQ (n : Nat) (p : Int) : Prop := 0 ≤ p ∧ p < (n : Int)
theorem r93 (T W : List Int) (n : Nat) (hl : W.length = n) (p q : Int) (hp : okQ n p) (hq : okQ n q) : Body (EnW [c86.to] T W n) none1 Tryd.f93 [I p, I q, .ptr 2 0] (hW T W n) (I (cmI (wv W p) (wv W q)), hW T W n) := by
  have p1 : p.toNat < W.length := by have := hp.1; have := hp.2; omega
  have q1 : q.toNat < W.length := by have := hq.1; have := hq.2; omega
  obtain ⟨hp0, hp2⟩ := hp
  obtain ⟨hq0, hq2⟩ := hq
  refine body_s ([Ans.o (Orc.val 8 (AV.ptr 1 p.toNat) H.nil), Ans.o (Orc.val 9 (I (W.getD p.toNat i0)) H.nil), Ans.o (Orc.val 12 (AV.ptr 1 q.toNat) H.nil), Ans.o (Orc.val 13 (I (W.getD q.toNat i0)) H.nil), Ans.o (Orc.val 14 (I (cmI (W.getD p.toNat i0) (W.getD q.toNat i0))) (H.mk [ints T, ints W, [AV.msl 1 0 n (9223372036854775808 : Nat) (1 : Nat)]] [] []))]) (aIndexAddr Tryd.prog (22 : Nat) (AV.msl 1 0 n (9223372036854775808 : Nat) (1 : Nat)) (I p) = some (AV.ptr 1 p.toNat) ∧ aLoad Tryd.prog (3 : Nat) (List.drop p.toNat (ints W)) = some (I (W.getD p.toNat i0)) ∧ aIndexAddr Tryd.prog (22 : Nat) (AV.msl 1 0 n (9223372036854775808 : Nat) (1 : Nat)) (I q) = some (AV.ptr 1 q.toNat) ∧ aLoad Tryd.prog (3 : Nat) (List.drop q.toNat (ints W)) = some (I (W.getD q.toNat i0)) ∧ aCall (Sof [c86.to]) (AV.fn (Fn.func (86 : Nat)) [] []) [I (W.getD p.toNat i0), I (W.getD q.toNat i0)] (H.mk [ints T, ints W, [AV.msl 1 0 n (9223372036854775808 : Nat) (1 : Nat)]] [] []) = some (I (cmI (W.getD p.toNat i0) (W.getD q.toNat i0)), H.mk [ints T, ints W, [AV.msl 1 0 n (9223372036854775808 : Nat) (1 : Nat)]] [] []) ∧ (I (cmI (W.getD p.toNat i0) (W.getD q.toNat i0)), H.mk [ints T, ints W, [AV.msl 1 0 n (9223372036854775808 : Nat) (1 : Nat)]] [] []) = (I (cmI (wv W p) (wv W q)), H.mk [ints T, ints W, [AV.msl 1 0 n (9223372036854775808 : Nat) (1 : Nat)]] [] [])) (by kernel_rfl) ?_
  refine ⟨by first | exact ixm0_int (by kernel_rfl) hp0 hp2 | exact ixm0_int (by kernel_rfl) hq0 hq2, ?_⟩
  refine ⟨by first | exact ldm_ints (by kernel_rfl) (by kernel_rfl) p1 | exact ldm_ints (by kernel_rfl) (by kernel_rfl) q1, ?_⟩
  refine ⟨by first | exact ixm0_int (by kernel_rfl) hp0 hp2 | exact ixm0_int (by kernel_rfl) hq0 hq2, ?_⟩
  refine ⟨by first | exact ldm_ints (by kernel_rfl) (by kernel_rfl) p1 | exact ldm_ints (by kernel_rfl) (by kernel_rfl) q1, ?_⟩
  refine ⟨acall_hit (c := c86.to) (wv W p, wv W q) _ rfl trivial, ?_⟩
  first | with_reducible rfl | (refine bleaf_t ?_; omega) | (refine bleaf_f ?_; omega) | (refine ileaf ?_; omega) | rfl | (exfalso; omega)
/-- the closure that compares wins -/
noncomputable def c93 (T W : List Int) (n : Nat) (h : W.length = n) : Ctr Tryd.prog :=
  fctr ok93 (hW T W n) (X := Int × Int) (fun x => [I x.1, I x.2, .ptr 2 0]) (fun x => okQ n x.1 ∧ okQ n x.2) (fun x => I (cmI (wv W x.1) (wv W x.2)))
    (by rintro ⟨a, c⟩ ⟨a', c'⟩ e _ _; simp at e; simp [e]) (hW_closed T W n) (fun _ _ => rfl) (fun _ _ => rfl) (fun x hx => ⟨_, _, _, .pure c86 .nil, r93 T W n h x.1 x.2 hx.1 hx.2⟩)
theorem c93_reads (T W : List Int) (n : Nat) (h : W.length = n) : (c93 T W n h).Reads := fctr_reads ..
abbrev hU (T W U : List Int) (n : Nat) : H := ⟨[ints T, ints W, [.msl 1 0 n noCap 1], [I 0], ints U], [], []⟩
abbrev fW : AV := .fn (.func 93) [] [.ptr 2 0]
abbrev mU (m : Nat) : AV := .msl 4 0 m noCap 1
noncomputable abbrev EnU (l : List (Ctr Tryd.prog)) : Env := ⟨Tryd.prog, Sof (P := Tryd.prog) l, Pof (P := Tryd.prog) [], ⟨5, 0, 0⟩, 300⟩
abbrev o128b (T W : List Int) (n m i : Nat) (l : List Int) : List Out := [.mk Unit (.exit 2) [0, 1, 2, 3, 8] (fun _ => True) (fun _ => [mU m, I 0, I m, fW, I i]) (fun _ => hU T W (skW W l i) n) (fun _ => [])]
theorem simp128b : allSimpleM none1 (loopAt Tryd.f128 1) = true := by kernel_rfl
theorem cm_lt {x y : Int} : cmI x y < 0 ↔ x < y := by
  rw [cmI]; split
  · constructor <;> intro <;> omega
  · split <;> constructor <;> intro <;> omega
theorem lp128b (T W : List Int) (n : Nat) (hW : W.length = n) (m i : Nat) (l : List Int) (hm : m ≤ n) (hn : n ≤ 8) (hl : l.length = n) (hi : i < m) (hal : al (okQ n) l) :
    LoopS (EnU [c93 T W n hW]) (loopAt Tryd.f128 1) 53 [0, 1, 2, 3, 8, 9] [mU m, I 0, I m, fW, I i, I i] (hU T W l n) (o128b T W n m i l) := by
  have hR : Rests (EnU [c93 T W n hW]) none1 := rests mixed (.rd _ (c93_reads T W n hW) .nil)
  refine loop_s hR simp128b none (by intro _ h; cases h) (fun r vs h => ∃ (j : Nat) (cur : List Int), j + r = i ∧ cur.length = n ∧ al (okQ n) cur ∧ skW W cur j = skW W l i ∧ h = hU T W cur n ∧ vs = [mU m, I 0, I m, fW, I i, I j]) i ⟨i, l, rfl, hl, hal, rfl, rfl, rfl⟩ (by intro _ h; cases h) ?_
  rintro r vs h hr ⟨j, cur, e1, e2, ea, e3, rfl, rfl⟩
  match j, e1, e3 with
  | 0, e1, e3 =>
    have e3 : cur = skW W l i := e3
    rw [e3]
    refine ⟨[Ans.o Orc.dflt], fun u => of_eq ((53 : Nat) = (53 : Nat) ∧ hits [Out.mk Unit (AX.exit (2 : Nat)) [(0 : Nat), (1 : Nat), (2 : Nat), (3 : Nat), (8 : Nat)] (fun x => True) (fun x => [mU m, I 0, I (↑m : Int), fW, I (↑i : Int)]) (fun x => hU T W (skW W l i) n) fun x => []] (AX.exit (2 : Nat)) [AV.msl 4 0 m (9223372036854775808 : Nat) (1 : Nat), I 0, I (↑m : Int), AV.fn (Fn.func (93 : FuncId)) [] [AV.ptr 2 0], u (4 : Nat), u (5 : Nat), u (6 : Nat), u (7 : Nat), I (↑i : Int), I 0, u (10 : Nat), u (11 : Nat), u (12 : Nat), u (13 : Nat), u (14 : Nat), u (15 : Nat), u (16 : Nat), u (17 : Nat), I 0, I 0, AV.bool false, AV.bool false, AV.tup [], AV.tup [], AV.tup [], AV.tup [], AV.tup [], AV.tup [], AV.tup [], AV.tup [], AV.tup [], AV.tup [], AV.tup [], AV.tup [], AV.bool false, u (35 : Nat), u (36 : Nat), u (37 : Nat), u (38 : Nat), u (39 : Nat), u (40 : Nat), u (41 : Nat), u (42 : Nat), u (43 : Nat), u (44 : Nat), u (45 : Nat), u (46 : Nat), u (47 : Nat), u (48 : Nat), u (49 : Nat), u (50 : Nat), u (51 : Nat), u (52 : Nat)] (H.mk [ints T, ints W, [AV.msl 1 0 n (9223372036854775808 : Nat) (1 : Nat)], [I 0], ints (skW W l i)] [] [])) (by kernel_rfl) ?_⟩
    refine ⟨by first | with_reducible assumption | omega | assumption, ?_⟩
    exact .inl ⟨(), trivial, rfl, rfl, rfl⟩
  | j + 1, e1, e3 =>
    have g0 : (0 : Int) < ((j + 1 : Nat) : Int) := by omega
    have ev0 : IntKind.i64.wrap (((j + 1 : Nat) : Int) - 1) = (j : Int) := by rw [wr _ (by omega) (by omega)]; omega
    have k1 : j + 1 < m := by omega
    have k2 : j < m := by omega
    have k3 : j + 1 < cur.length := by omega
    have k4 : j < cur.length := by omega
    have p93 : (okQ n (cur.getD (j + 1) i0) ∧ okQ n (cur.getD j i0)) ∧ ∃ zs, (hU T W cur n).blk = (Rnk.hW T W n).blk ++ zs := ⟨⟨ea _, ea _⟩, _, rfl⟩
    by_cases c : wv W (cur.getD (j + 1) i0) < wv W (cur.getD j i0)
    · have hd : cmI (wv W (cur.getD (j + 1) i0)) (wv W (cur.getD j i0)) < 0 := cm_lt.2 c
      have e4 : skW W (sw cur j) j = skW W l i := by rw [← e3]; simp only [skW]; rw [if_pos c]
      have e5 : (sw cur j).length = n := by simp [e2]
      have e6 : j + (r + 1) = i := by omega
      have e7 := al_sw ea j
      refine ⟨[Ans.o (Orc.b true), Ans.o (Orc.val 25 (AV.ptr 4 (j + (1 : Nat))) H.nil), Ans.o (Orc.val 26 (I (cur.getD (j + (1 : Nat)) i0)) H.nil), Ans.o (Orc.val 29 (I (↑j : Int)) H.nil), Ans.o (Orc.val 30 (AV.ptr 4 j) H.nil), Ans.o (Orc.val 31 (I (cur.getD j i0)) H.nil), Ans.o (Orc.val 32 (I (cmI (wv W (cur.getD (j + (1 : Nat)) i0)) (wv W (cur.getD j i0)))) (H.mk [ints T, ints W, [AV.msl 1 0 n (9223372036854775808 : Nat) (1 : Nat)], [I 0], ints cur] [] [])), Ans.o (Orc.b true), Ans.o (Orc.val 41 (I (↑j : Int)) H.nil), Ans.o (Orc.val 44 (I (↑j : Int)) H.nil), Ans.o (Orc.val 45 (AV.ptr 4 j) H.nil), Ans.o (Orc.val 46 (I (cur.getD j i0)) H.nil), Ans.o (Orc.val 49 (AV.ptr 4 (j + (1 : Nat))) H.nil), Ans.o (Orc.val 50 (I (cur.getD (j + (1 : Nat)) i0)) H.nil), Ans.o (Orc.val 51 (AV.ptr 4 (j + (1 : Nat))) H.nil), Ans.o (Orc.val 9999 (AV.tup []) (H.mk [ints T, ints W, [AV.msl 1 0 n (9223372036854775808 : Nat) (1 : Nat)], [I 0], ints (cur.set (j + (1 : Nat)) (cur.getD j i0))] [] [])), Ans.o (Orc.val 52 (AV.ptr 4 j) H.nil), Ans.o (Orc.val 9999 (AV.tup []) (H.mk [ints T, ints W, [AV.msl 1 0 n (9223372036854775808 : Nat) (1 : Nat)], [I 0], ints ((cur.set (j + (1 : Nat)) (cur.getD j i0)).set j (cur.getD (j + (1 : Nat)) i0))] [] [])), Ans.o (Orc.val 36 (I (↑j : Int)) H.nil)], fun u => of_eq ((0 : Int) < (↑(j + (1 : Nat)) : Int) ∧ aIndexAddr Tryd.prog (22 : Nat) (AV.msl 4 0 m (9223372036854775808 : Nat) (1 : Nat)) (I (↑(j + (1 : Nat)) : Int)) = some (AV.ptr 4 (j + (1 : Nat))) ∧ aLoad Tryd.prog (3 : Nat) (List.drop (j + (1 : Nat)) (ints cur)) = some (I (cur.getD (j + (1 : Nat)) i0)) ∧ aBin Tryd.prog BinOp.sub (3 : Nat) (I (↑(j + (1 : Nat)) : Int)) (I 1) = some (I (↑j : Int)) ∧ aIndexAddr Tryd.prog (22 : Nat) (AV.msl 4 0 m (9223372036854775808 : Nat) (1 : Nat)) (I (↑j : Int)) = some (AV.ptr 4 j) ∧ aLoad Tryd.prog (3 : Nat) (List.drop j (ints cur)) = some (I (cur.getD j i0)) ∧ aCall (Sof [c93 T W n hW]) (AV.fn (Fn.func (93 : FuncId)) [] [AV.ptr 2 0]) [I (cur.getD (j + (1 : Nat)) i0), I (cur.getD j i0)] (H.mk [ints T, ints W, [AV.msl 1 0 n (9223372036854775808 : Nat) (1 : Nat)], [I 0], ints cur] [] []) = some (I (cmI (wv W (cur.getD (j + (1 : Nat)) i0)) (wv W (cur.getD j i0))), H.mk [ints T, ints W, [AV.msl 1 0 n (9223372036854775808 : Nat) (1 : Nat)], [I 0], ints cur] [] []) ∧ cmI (wv W (cur.getD (j + (1 : Nat)) i0)) (wv W (cur.getD j i0)) < (0 : Int) ∧ aBin Tryd.prog BinOp.sub (3 : Nat) (I (↑(j + (1 : Nat)) : Int)) (I 1) = some (I (↑j : Int)) ∧ aBin Tryd.prog BinOp.sub (3 : Nat) (I (↑(j + (1 : Nat)) : Int)) (I 1) = some (I (↑j : Int)) ∧ aIndexAddr Tryd.prog (22 : Nat) (AV.msl 4 0 m (9223372036854775808 : Nat) (1 : Nat)) (I (↑j : Int)) = some (AV.ptr 4 j) ∧ aLoad Tryd.prog (3 : Nat) (List.drop j (ints cur)) = some (I (cur.getD j i0)) ∧ aIndexAddr Tryd.prog (22 : Nat) (AV.msl 4 0 m (9223372036854775808 : Nat) (1 : Nat)) (I (↑(j + (1 : Nat)) : Int)) = some (AV.ptr 4 (j + (1 : Nat))) ∧ aLoad Tryd.prog (3 : Nat) (List.drop (j + (1 : Nat)) (ints cur)) = some (I (cur.getD (j + (1 : Nat)) i0)) ∧ aIndexAddr Tryd.prog (22 : Nat) (AV.msl 4 0 m (9223372036854775808 : Nat) (1 : Nat)) (I (↑(j + (1 : Nat)) : Int)) = some (AV.ptr 4 (j + (1 : Nat))) ∧ aStore Tryd.prog (Base.mk (5 : Nat) (0 : Nat) (0 : Nat)) (3 : Nat) (AV.ptr 4 (j + (1 : Nat))) (I (cur.getD j i0)) (H.mk [ints T, ints W, [AV.msl 1 0 n (9223372036854775808 : Nat) (1 : Nat)], [I 0], ints cur] [] []) = some (H.mk [ints T, ints W, [AV.msl 1 0 n (9223372036854775808 : Nat) (1 : Nat)], [I 0], ints (cur.set (j + (1 : Nat)) (cur.getD j i0))] [] []) ∧ aIndexAddr Tryd.prog (22 : Nat) (AV.msl 4 0 m (9223372036854775808 : Nat) (1 : Nat)) (I (↑j : Int)) = some (AV.ptr 4 j) ∧ aStore Tryd.prog (Base.mk (5 : Nat) (0 : Nat) (0 : Nat)) (3 : Nat) (AV.ptr 4 j) (I (cur.getD (j + (1 : Nat)) i0)) (H.mk [ints T, ints W, [AV.msl 1 0 n (9223372036854775808 : Nat) (1 : Nat)], [I 0], ints (cur.set (j + (1 : Nat)) (cur.getD j i0))] [] []) = some (H.mk [ints T, ints W, [AV.msl 1 0 n (9223372036854775808 : Nat) (1 : Nat)], [I 0], ints ((cur.set (j + (1 : Nat)) (cur.getD j i0)).set j (cur.getD (j + (1 : Nat)) i0))] [] []) ∧ aBin Tryd.prog BinOp.sub (3 : Nat) (I (↑(j + (1 : Nat)) : Int)) (I 1) = some (I (↑j : Int)) ∧ (53 : Nat) = (53 : Nat) ∧ r < i ∧ Keep (∃ j_1 cur_1, j_1 + (r + (1 : Nat)) = i ∧ cur_1.length = n ∧ al (okQ n) cur_1 ∧ skW W cur_1 j_1 = skW W l i ∧ H.mk [ints T, ints W, [AV.msl 1 0 n (9223372036854775808 : Nat) (1 : Nat)], [I 0], ints ((cur.set (j + (1 : Nat)) (cur.getD j i0)).set j (cur.getD (j + (1 : Nat)) i0))] [] [] = H.mk [ints T, ints W, [AV.msl 1 0 n (9223372036854775808 : Nat) (1 : Nat)], [I 0], ints cur_1] [] [] ∧ [AV.msl 4 0 m (9223372036854775808 : Nat) (1 : Nat), I 0, I (↑m : Int), AV.fn (Fn.func (93 : FuncId)) [] [AV.ptr 2 0], I (↑i : Int), I (↑j : Int)] = [AV.msl 4 0 m (9223372036854775808 : Nat) (1 : Nat), I 0, I (↑m : Int), AV.fn (Fn.func (93 : FuncId)) [] [AV.ptr 2 0], I (↑i : Int), I (↑j_1 : Int)])) (by kernel_rfl) ?_⟩
      refine ⟨by first | with_reducible assumption | omega | assumption, ?_⟩
      refine ⟨by first | exact ixm0 (by kernel_rfl) k1 | exact ixm0 (by kernel_rfl) k2, ?_⟩
      refine ⟨by first | exact ldm_ints (by kernel_rfl) (by kernel_rfl) k3 | exact ldm_ints (by kernel_rfl) (by kernel_rfl) k4, ?_⟩
      refine ⟨told_sub (by with_reducible assumption), ?_⟩
      refine ⟨by first | exact ixm0 (by kernel_rfl) k1 | exact ixm0 (by kernel_rfl) k2, ?_⟩
      refine ⟨by first | exact ldm_ints (by kernel_rfl) (by kernel_rfl) k3 | exact ldm_ints (by kernel_rfl) (by kernel_rfl) k4, ?_⟩
      refine ⟨acall_hit (c := c93 T W n hW) (cur.getD (j + 1) i0, cur.getD j i0) _ rfl p93, ?_⟩
      refine ⟨by first | with_reducible assumption | omega | assumption, ?_⟩
      refine ⟨told_sub (by with_reducible assumption), ?_⟩
      refine ⟨told_sub (by with_reducible assumption), ?_⟩
      refine ⟨by first | exact ixm0 (by kernel_rfl) k1 | exact ixm0 (by kernel_rfl) k2, ?_⟩
      refine ⟨by first | exact ldm_ints (by kernel_rfl) (by kernel_rfl) k3 | exact ldm_ints (by kernel_rfl) (by kernel_rfl) k4, ?_⟩
      refine ⟨by first | exact ixm0 (by kernel_rfl) k1 | exact ixm0 (by kernel_rfl) k2, ?_⟩
      refine ⟨by first | exact ldm_ints (by kernel_rfl) (by kernel_rfl) k3 | exact ldm_ints (by kernel_rfl) (by kernel_rfl) k4, ?_⟩
      refine ⟨by first | exact ixm0 (by kernel_rfl) k1 | exact ixm0 (by kernel_rfl) k2, ?_⟩
      refine ⟨by first | exact st_ints (by kernel_rfl) rfl k3 | exact st_ints (by kernel_rfl) rfl (by rw [List.length_set]; exact k4), ?_⟩
      refine ⟨by first | exact ixm0 (by kernel_rfl) k1 | exact ixm0 (by kernel_rfl) k2, ?_⟩
      refine ⟨by first | exact st_ints (by kernel_rfl) rfl k3 | exact st_ints (by kernel_rfl) rfl (by rw [List.length_set]; exact k4), ?_⟩
      refine ⟨told_sub (by with_reducible assumption), ?_⟩
      refine ⟨by first | with_reducible assumption | omega | assumption, ?_⟩
      refine ⟨by first | with_reducible assumption | omega | assumption, ?_⟩
      exact ⟨j, sw cur j, e6, e5, e7, e4, rfl, rfl⟩
    · have hd : 0 ≤ cmI (wv W (cur.getD (j + 1) i0)) (wv W (cur.getD j i0)) := by
        apply Int.not_lt.1
        intro q; exact c (cm_lt.1 q)
      have e4 : cur = skW W l i := by rw [← e3]; simp only [skW]; rw [if_neg c]
      refine ⟨[Ans.o (Orc.b true), Ans.o (Orc.val 25 (AV.ptr 4 (j + (1 : Nat))) H.nil), Ans.o (Orc.val 26 (I (cur.getD (j + (1 : Nat)) i0)) H.nil), Ans.o (Orc.val 29 (I (↑j : Int)) H.nil), Ans.o (Orc.val 30 (AV.ptr 4 j) H.nil), Ans.o (Orc.val 31 (I (cur.getD j i0)) H.nil), Ans.o (Orc.val 32 (I (cmI (wv W (cur.getD (j + (1 : Nat)) i0)) (wv W (cur.getD j i0)))) (H.mk [ints T, ints W, [AV.msl 1 0 n (9223372036854775808 : Nat) (1 : Nat)], [I 0], ints cur] [] [])), Ans.o (Orc.b false)], fun u => of_eq ((0 : Int) < (↑(j + (1 : Nat)) : Int) ∧ aIndexAddr Tryd.prog (22 : Nat) (AV.msl 4 0 m (9223372036854775808 : Nat) (1 : Nat)) (I (↑(j + (1 : Nat)) : Int)) = some (AV.ptr 4 (j + (1 : Nat))) ∧ aLoad Tryd.prog (3 : Nat) (List.drop (j + (1 : Nat)) (ints cur)) = some (I (cur.getD (j + (1 : Nat)) i0)) ∧ aBin Tryd.prog BinOp.sub (3 : Nat) (I (↑(j + (1 : Nat)) : Int)) (I 1) = some (I (↑j : Int)) ∧ aIndexAddr Tryd.prog (22 : Nat) (AV.msl 4 0 m (9223372036854775808 : Nat) (1 : Nat)) (I (↑j : Int)) = some (AV.ptr 4 j) ∧ aLoad Tryd.prog (3 : Nat) (List.drop j (ints cur)) = some (I (cur.getD j i0)) ∧ aCall (Sof [c93 T W n hW]) (AV.fn (Fn.func (93 : FuncId)) [] [AV.ptr 2 0]) [I (cur.getD (j + (1 : Nat)) i0), I (cur.getD j i0)] (H.mk [ints T, ints W, [AV.msl 1 0 n (9223372036854775808 : Nat) (1 : Nat)], [I 0], ints cur] [] []) = some (I (cmI (wv W (cur.getD (j + (1 : Nat)) i0)) (wv W (cur.getD j i0))), H.mk [ints T, ints W, [AV.msl 1 0 n (9223372036854775808 : Nat) (1 : Nat)], [I 0], ints cur] [] []) ∧ (0 : Int) ≤ cmI (wv W (cur.getD (j + (1 : Nat)) i0)) (wv W (cur.getD j i0)) ∧ (53 : Nat) = (53 : Nat) ∧ hits [Out.mk Unit (AX.exit (2 : Nat)) [(0 : Nat), (1 : Nat), (2 : Nat), (3 : Nat), (8 : Nat)] (fun x => True) (fun x => [mU m, I 0, I (↑m : Int), fW, I (↑i : Int)]) (fun x => hU T W (skW W l i) n) fun x => []] (AX.exit (2 : Nat)) [AV.msl 4 0 m (9223372036854775808 : Nat) (1 : Nat), I 0, I (↑m : Int), AV.fn (Fn.func (93 : FuncId)) [] [AV.ptr 2 0], u (4 : Nat), u (5 : Nat), u (6 : Nat), u (7 : Nat), I (↑i : Int), I (↑(j + (1 : Nat)) : Int), u (10 : Nat), u (11 : Nat), u (12 : Nat), u (13 : Nat), u (14 : Nat), u (15 : Nat), u (16 : Nat), u (17 : Nat), I (↑(j + (1 : Nat)) : Int), I 0, AV.bool true, AV.bool true, AV.fn (Fn.func (93 : FuncId)) [] [AV.ptr 2 0], AV.msl 4 0 m (9223372036854775808 : Nat) (1 : Nat), I (↑(j + (1 : Nat)) : Int), AV.ptr 4 (j + (1 : Nat)), I (cur.getD (j + (1 : Nat)) i0), AV.msl 4 0 m (9223372036854775808 : Nat) (1 : Nat), I (↑(j + (1 : Nat)) : Int), I (↑j : Int), AV.ptr 4 j, I (cur.getD j i0), I (cmI (wv W (cur.getD (j + (1 : Nat)) i0)) (wv W (cur.getD j i0))), AV.bool false, AV.bool false, u (35 : Nat), u (36 : Nat), u (37 : Nat), u (38 : Nat), u (39 : Nat), u (40 : Nat), u (41 : Nat), u (42 : Nat), u (43 : Nat), u (44 : Nat), u (45 : Nat), u (46 : Nat), u (47 : Nat), u (48 : Nat), u (49 : Nat), u (50 : Nat), u (51 : Nat), u (52 : Nat)] (H.mk [ints T, ints W, [AV.msl 1 0 n (9223372036854775808 : Nat) (1 : Nat)], [I 0], ints cur] [] [])) (by kernel_rfl) ?_⟩
      refine ⟨by first | with_reducible assumption | omega | assumption, ?_⟩
      refine ⟨by first | exact ixm0 (by kernel_rfl) k1 | exact ixm0 (by kernel_rfl) k2, ?_⟩
      refine ⟨by first | exact ldm_ints (by kernel_rfl) (by kernel_rfl) k3 | exact ldm_ints (by kernel_rfl) (by kernel_rfl) k4, ?_⟩
      refine ⟨told_sub (by with_reducible assumption), ?_⟩
      refine ⟨by first | exact ixm0 (by kernel_rfl) k1 | exact ixm0 (by kernel_rfl) k2, ?_⟩
      refine ⟨by first | exact ldm_ints (by kernel_rfl) (by kernel_rfl) k3 | exact ldm_ints (by kernel_rfl) (by kernel_rfl) k4, ?_⟩
      refine ⟨acall_hit (c := c93 T W n hW) (cur.getD (j + 1) i0, cur.getD j i0) _ rfl p93, ?_⟩
      refine ⟨by first | with_reducible assumption | omega | assumption, ?_⟩
      refine ⟨by first | with_reducible assumption | omega | assumption, ?_⟩
      exact .inl ⟨(), trivial, rfl, rfl, by rw [← e4]; rfl⟩
abbrev o128 (T W : List Int) (n m : Nat) (l : List Int) : List Out := [.mk Unit (.exit 0) [] (fun _ => True) (fun _ => []) (fun _ => hU T W (isW W l (m - 1)) n) (fun _ => [])]
theorem simp128 : allSimpleM none1 (loopAt Tryd.f128 0) = true := by kernel_rfl
theorem lp128 (T W : List Int) (n : Nat) (hW : W.length = n) (m : Nat) (l : List Int) (hm : m ≤ n) (h1 : 1 ≤ m) (hn : n ≤ 8) (hl : l.length = n) (hal : al (okQ n) l) :
    LoopS (EnU [c93 T W n hW]) (loopAt Tryd.f128 0) 53 [0, 1, 2, 3, 8] [mU m, I 0, I m, fW, I 1] (hU T W l n) (o128 T W n m l) := by
  have hR : Rests (EnU [c93 T W n hW]) none1 := rests mixed (.rd _ (c93_reads T W n hW) .nil)
  refine loop_s hR simp128 none (by intro _ h; cases h) (fun r vs h => h = hU T W (isW W l r) n ∧ vs = [mU m, I 0, I m, fW, I ((r + 1 : Nat) : Int)] ∧ r + 1 ≤ m) m ⟨rfl, rfl, by omega⟩ (by intro _ h; cases h) ?_
  rintro r vs h hr ⟨rfl, rfl, hle⟩
  have ev0 := wj1 (j := r + 1) (by omega)
  by_cases hz : ((r + 1 : Nat) : Int) < m
  · have lp := lp128b T W n hW m (r + 1) (isW W l r) hm hn (by rw [isW_len]; exact hl) (by omega) (al_isW hal r)
    have hle' : r + 1 + 1 ≤ m := by omega
    refine ⟨[Ans.o (Orc.b true), Ans.loop [(0 : Nat), (1 : Nat), (2 : Nat), (3 : Nat), (8 : Nat), (9 : Nat)] [Out.mk Unit (AX.exit (2 : Nat)) [(0 : Nat), (1 : Nat), (2 : Nat), (3 : Nat), (8 : Nat)] (fun x => True) (fun x => [mU m, I 0, I (↑m : Int), fW, I (↑(r + (1 : Nat)) : Int)]) (fun x => hU T W (skW W (isW W l r) (r + (1 : Nat))) n) fun y => [Ans.o (Orc.val 16 (I (↑(r + (1 : Nat) + (1 : Nat)) : Int)) H.nil)]]], fun u => of_eq ((↑(r + (1 : Nat)) : Int) < (↑m : Int) ∧ LoopS (Env.mk Tryd.prog (Sof [c93 T W n hW]) (Pof (P := Tryd.prog) []) (Base.mk (5 : Nat) (0 : Nat) (0 : Nat)) (300 : Nat)) (loopAt Tryd.f128 (1 : Nat)) (53 : Nat) [(0 : Nat), (1 : Nat), (2 : Nat), (3 : Nat), (8 : Nat), (9 : Nat)] [AV.msl 4 0 m (9223372036854775808 : Nat) (1 : Nat), I 0, I (↑m : Int), AV.fn (Fn.func (93 : FuncId)) [] [AV.ptr 2 0], I (↑(r + (1 : Nat)) : Int), I (↑(r + (1 : Nat)) : Int)] (H.mk [ints T, ints W, [AV.msl 1 0 n (9223372036854775808 : Nat) (1 : Nat)], [I 0], ints (isW W l r)] [] []) [Out.mk Unit (AX.exit (2 : Nat)) [(0 : Nat), (1 : Nat), (2 : Nat), (3 : Nat), (8 : Nat)] (fun x => True) (fun x => [mU m, I 0, I (↑m : Int), fW, I (↑(r + (1 : Nat)) : Int)]) (fun x => hU T W (skW W (isW W l r) (r + (1 : Nat))) n) fun y => [Ans.o (Orc.val 16 (I (↑(r + (1 : Nat) + (1 : Nat)) : Int)) H.nil)]] ∧ (∀ (y : Unit), True → ∀ (u : Nat → AV), aBin Tryd.prog BinOp.add (3 : Nat) (I (↑(r + (1 : Nat)) : Int)) (I 1) = some (I (↑(r + (1 : Nat) + (1 : Nat)) : Int)) ∧ (53 : Nat) = (53 : Nat) ∧ r < m ∧ Keep (H.mk [ints T, ints W, [AV.msl 1 0 n (9223372036854775808 : Nat) (1 : Nat)], [I 0], ints (skW W (isW W l r) (r + (1 : Nat)))] [] [] = H.mk [ints T, ints W, [AV.msl 1 0 n (9223372036854775808 : Nat) (1 : Nat)], [I 0], ints (isW W l (r + (1 : Nat)))] [] [] ∧ [AV.msl 4 0 m (9223372036854775808 : Nat) (1 : Nat), I 0, I (↑m : Int), AV.fn (Fn.func (93 : FuncId)) [] [AV.ptr 2 0], I (↑(r + (1 : Nat) + (1 : Nat)) : Int)] = [AV.msl 4 0 m (9223372036854775808 : Nat) (1 : Nat), I 0, I (↑m : Int), AV.fn (Fn.func (93 : FuncId)) [] [AV.ptr 2 0], I (↑(r + (1 : Nat) + (1 : Nat)) : Int)] ∧ r + (1 : Nat) + (1 : Nat) ≤ m)) ∧ True) (by kernel_rfl) ?_⟩
    refine ⟨by first | with_reducible assumption | omega | assumption, ?_⟩
    refine ⟨lp, ?_⟩
    refine And.intro ?_ ?_
    · skip
      intro y
      intro w1
      intro u
      refine ⟨told_add (by with_reducible assumption), ?_⟩
      refine ⟨by first | with_reducible assumption | omega | assumption, ?_⟩
      refine ⟨by first | with_reducible assumption | omega | assumption, ?_⟩
      exact ⟨rfl, rfl, hle'⟩
    · skip
      trivial
  · have hz : (m : Int) ≤ ((r + 1 : Nat) : Int) := by omega
    have e : isW W l r = isW W l (m - 1) := by rw [show m - 1 = r by omega]
    rw [e]
    refine ⟨[Ans.o (Orc.b false)], fun u => of_eq ((↑m : Int) ≤ (↑(r + (1 : Nat)) : Int) ∧ (53 : Nat) = (53 : Nat) ∧ hits [Out.mk Unit (AX.exit (0 : Nat)) [] (fun x => True) (fun x => []) (fun x => hU T W (isW W l (m - (1 : Nat))) n) fun x => []] (AX.exit (0 : Nat)) [AV.msl 4 0 m (9223372036854775808 : Nat) (1 : Nat), I 0, I (↑m : Int), AV.fn (Fn.func (93 : FuncId)) [] [AV.ptr 2 0], u (4 : Nat), u (5 : Nat), u (6 : Nat), u (7 : Nat), I (↑(r + (1 : Nat)) : Int), u (9 : Nat), u (10 : Nat), u (11 : Nat), I (↑(r + (1 : Nat)) : Int), I (↑m : Int), AV.bool false, u (15 : Nat), u (16 : Nat), u (17 : Nat), u (18 : Nat), u (19 : Nat), u (20 : Nat), u (21 : Nat), u (22 : Nat), u (23 : Nat), u (24 : Nat), u (25 : Nat), u (26 : Nat), u (27 : Nat), u (28 : Nat), u (29 : Nat), u (30 : Nat), u (31 : Nat), u (32 : Nat), u (33 : Nat), u (34 : Nat), u (35 : Nat), u (36 : Nat), u (37 : Nat), u (38 : Nat), u (39 : Nat), u (40 : Nat), u (41 : Nat), u (42 : Nat), u (43 : Nat), u (44 : Nat), u (45 : Nat), u (46 : Nat), u (47 : Nat), u (48 : Nat), u (49 : Nat), u (50 : Nat), u (51 : Nat), u (52 : Nat)] (H.mk [ints T, ints W, [AV.msl 1 0 n (9223372036854775808 : Nat) (1 : Nat)], [I 0], ints (isW W l (m - (1 : Nat)))] [] [])) (by kernel_rfl) ?_⟩
    refine ⟨by first | with_reducible assumption | omega | assumption, ?_⟩
    refine ⟨by first | with_reducible assumption | omega | assumption, ?_⟩
    exact .inl ⟨(), trivial, rfl, rfl, rfl⟩
theorem ok128 : FokM Tryd.prog none1 128 Tryd.f128 := ⟨mixed, by kernel_rfl, by kernel_rfl, by kernel_rfl, by kernel_rfl⟩
theorem r128 (T W : List Int) (n : Nat) (hW : W.length = n) (m : Nat) (l : List Int) (hm : m ≤ n) (h1 : 1 ≤ m) (hn : n ≤ 8) (hl : l.length = n) (hal : al (okQ n) l) : Body (EnU [c93 T W n hW]) none1 Tryd.f128 [mU m, I 0, I m, fW] (hU T W l n) (.tup [], hU T W (isW W l (m - 1)) n) := by
  have lp := lp128 T W n hW m l hm h1 hn hl hal
  refine body_s ([Ans.loop [(0 : Nat), (1 : Nat), (2 : Nat), (3 : Nat), (8 : Nat)] [Out.mk Unit (AX.exit (0 : Nat)) [] (fun x => True) (fun x => []) (fun x => hU T W (isW W l (m - (1 : Nat))) n) fun y => []]]) (IntKind.i64.wrap (1 : Int) = (1 : Int) ∧ LoopS (Env.mk Tryd.prog (Sof [c93 T W n hW]) (Pof (P := Tryd.prog) []) (Base.mk (5 : Nat) (0 : Nat) (0 : Nat)) (300 : Nat)) (loopAt Tryd.f128 (0 : Nat)) (53 : Nat) [(0 : Nat), (1 : Nat), (2 : Nat), (3 : Nat), (8 : Nat)] [AV.msl 4 0 m (9223372036854775808 : Nat) (1 : Nat), I 0, I (↑m : Int), AV.fn (Fn.func (93 : FuncId)) [] [AV.ptr 2 0], I 1] (H.mk [ints T, ints W, [AV.msl 1 0 n (9223372036854775808 : Nat) (1 : Nat)], [I 0], ints l] [] []) [Out.mk Unit (AX.exit (0 : Nat)) [] (fun x => True) (fun x => []) (fun x => hU T W (isW W l (m - (1 : Nat))) n) fun y => []] ∧ (∀ (y : Unit), True → ∀ (u : Nat → AV), (AV.tup [], H.mk [ints T, ints W, [AV.msl 1 0 n (9223372036854775808 : Nat) (1 : Nat)], [I 0], ints (isW W l (m - (1 : Nat)))] [] []) = (AV.tup [], H.mk [ints T, ints W, [AV.msl 1 0 n (9223372036854775808 : Nat) (1 : Nat)], [I 0], ints (isW W l (m - (1 : Nat)))] [] [])) ∧ True) (by kernel_rfl) ?_
  refine ⟨wr _ (by omega) (by omega), ?_⟩
  refine ⟨lp, ?_⟩
  refine And.intro ?_ ?_
  · skip
    intro y
    intro w1
    intro u
    rfl
  · skip
    trivial
abbrev XU := (List Int × List Int × List Int) × Nat × Nat
abbrev pU (x : XU) (h : H) : Prop := h = hU x.1.1 x.1.2.1 x.1.2.2 x.2.1 ∧ (x.1.2.1.length = x.2.1 ∧ x.1.2.2.length = x.2.1) ∧ (x.2.2 ≤ x.2.1 ∧ 1 ≤ x.2.2 ∧ x.2.1 ≤ 8) ∧ al (okQ x.2.1) x.1.2.2
abbrev resU (x : XU) : AV × H := (.tup [], hU x.1.1 x.1.2.1 (isW x.1.2.1 x.1.2.2 (x.2.2 - 1)) x.2.1)
theorem detU {x y : XU} {h : H} (p : pU x h) (q : pU y h) (e : x.2.2 = y.2.2) : resU x = resU y := by
  obtain ⟨⟨T, W, U⟩, n, m⟩ := x
  obtain ⟨⟨T', W', U'⟩, n', m'⟩ := y
  have h1 := p.1.symm.trans q.1
  simp only [hU, H.mk.injEq, List.cons.injEq, and_true, AV.msl.injEq, true_and] at h1
  obtain ⟨a, b, c, d⟩ := h1
  have a := ints_inj a
  have b := ints_inj b
  have d := ints_inj d
  simp only at e
  subst a b c d e; rfl
noncomputable def c128 : Ctr Tryd.prog where
  f := 128
  X := XU
  args x := [mU x.2.2, I 0, I x.2.2, fW]
  pre x h := pU x h
  res x _ := resU x
  det := by
    intro x y h e p q
    simp only [List.cons.injEq, AV.msl.injEq, AV.int.injEq, true_and, and_true] at e
    exact detU p q e.1
  ok := by
    rintro ⟨⟨T, W, U⟩, n, m⟩ h ⟨h1, ⟨h2, h3⟩, ⟨h4, h5, h6⟩, h7⟩
    have h1 : h = hU T W U n := h1
    subst h1
    exact ⟨ok128.call, (r128 T W n h2 m U h4 h5 h6 h3 h7).run ok128 (.rd _ (c93_reads T W n h2) .nil) rfl⟩
abbrev M128 : FuncId → Bool := (· == 128)
theorem ok118 : FokM Tryd.prog M128 118 Tryd.f118 := ⟨mixed, by kernel_rfl, by kernel_rfl, by kernel_rfl, by kernel_rfl⟩
theorem r118 (x : XU) (hp : pU x (hU x.1.1 x.1.2.1 x.1.2.2 x.2.1)) : Body (EnU [c128]) M128 Tryd.f118 [mU x.2.2, I x.2.2, fW] (hU x.1.1 x.1.2.1 x.1.2.2 x.2.1) (resU x) := by
  obtain ⟨⟨T, W, U⟩, n, m⟩ := x
  have h8 : m ≤ 8 := by have := hp.2.2.1.1; have := hp.2.2.1.2.2; simp only at *; omega
  have c1 : (m : Int) < 20 := by omega
  have c2 : (m : Int) ≤ 20 := by omega
  refine body_s ([Ans.o (Orc.b false), Ans.o (Orc.val 27 (AV.tup []) (H.mk [ints T, ints W, [AV.msl 1 0 n (9223372036854775808 : Nat) (1 : Nat)], [I 0], ints (isW W U (m - (1 : Nat)))] [] [])), Ans.o (Orc.b false)]) ((↑((T, W, U), n, m).snd.snd : Int) < (20 : Int) ∧ aCall (Sof [c128]) (AV.fn (Fn.func (128 : Nat)) [] []) [AV.msl 4 0 ((T, W, U), n, m).snd.snd (9223372036854775808 : Nat) (1 : Nat), I 0, I (↑((T, W, U), n, m).snd.snd : Int), AV.fn (Fn.func (93 : FuncId)) [] [AV.ptr 2 0]] (H.mk [ints ((T, W, U), n, m).fst.fst, ints ((T, W, U), n, m).fst.snd.fst, [AV.msl 1 0 ((T, W, U), n, m).snd.fst (9223372036854775808 : Nat) (1 : Nat)], [I 0], ints ((T, W, U), n, m).fst.snd.snd] [] []) = some (AV.tup [], H.mk [ints T, ints W, [AV.msl 1 0 n (9223372036854775808 : Nat) (1 : Nat)], [I 0], ints (isW W U (m - (1 : Nat)))] [] []) ∧ (↑((T, W, U), n, m).snd.snd : Int) ≤ (20 : Int) ∧ (AV.tup [], H.mk [ints T, ints W, [AV.msl 1 0 n (9223372036854775808 : Nat) (1 : Nat)], [I 0], ints (isW W U (m - (1 : Nat)))] [] []) = (AV.tup [], H.mk [ints ((T, W, U), n, m).fst.fst, ints ((T, W, U), n, m).fst.snd.fst, [AV.msl 1 0 ((T, W, U), n, m).snd.fst (9223372036854775808 : Nat) (1 : Nat)], [I 0], ints (isW ((T, W, U), n, m).fst.snd.fst ((T, W, U), n, m).fst.snd.snd (((T, W, U), n, m).snd.snd - (1 : Nat)))] [] [])) (by kernel_rfl) ?_
  refine ⟨by first | with_reducible assumption | omega | assumption, ?_⟩
  refine ⟨acall_hit (c := c128) ((T, W, U), n, m) _ rfl hp, ?_⟩
  refine ⟨by first | with_reducible assumption | omega | assumption, ?_⟩
  rfl
noncomputable def c118 : Ctr Tryd.prog where
  f := 118
  X := XU
  args x := [mU x.2.2, I x.2.2, fW]
  pre x h := pU x h
  res x _ := resU x
  det := by
    intro x y h e p q
    simp only [List.cons.injEq, AV.msl.injEq, AV.int.injEq, true_and, and_true] at e
    exact detU p q e.1
  ok := by
    intro x h p
    have h1 := p.1
    subst h1
    exact ⟨ok118.call, (r118 x p).run ok118 (.eff c128 rfl .nil) rfl⟩
abbrev M118 : FuncId → Bool := (· == 118)
theorem ok92 : FokM Tryd.prog M118 92 Tryd.f92 := ⟨mixed, by kernel_rfl, by kernel_rfl, by kernel_rfl, by kernel_rfl⟩
theorem r92 (x : XU) (hp : pU x (hU x.1.1 x.1.2.1 x.1.2.2 x.2.1)) : Body (EnU [c118]) M118 Tryd.f92 [mU x.2.2, fW] (hU x.1.1 x.1.2.1 x.1.2.2 x.2.1) (resU x) := by
  obtain ⟨⟨T, W, U⟩, n, m⟩ := x
  refine body_s ([Ans.o (Orc.val 8 (AV.tup []) (H.mk [ints T, ints W, [AV.msl 1 0 n (9223372036854775808 : Nat) (1 : Nat)], [I 0], ints (isW W U (m - (1 : Nat)))] [] []))]) (aCall (Sof [c118]) (AV.fn (Fn.func (118 : Nat)) [] []) [AV.msl 4 0 ((T, W, U), n, m).snd.snd (9223372036854775808 : Nat) (1 : Nat), I (↑((T, W, U), n, m).snd.snd : Int), AV.fn (Fn.func (93 : FuncId)) [] [AV.ptr 2 0]] (H.mk [ints ((T, W, U), n, m).fst.fst, ints ((T, W, U), n, m).fst.snd.fst, [AV.msl 1 0 ((T, W, U), n, m).snd.fst (9223372036854775808 : Nat) (1 : Nat)], [I 0], ints ((T, W, U), n, m).fst.snd.snd] [] []) = some (AV.tup [], H.mk [ints T, ints W, [AV.msl 1 0 n (9223372036854775808 : Nat) (1 : Nat)], [I 0], ints (isW W U (m - (1 : Nat)))] [] []) ∧ (AV.tup [], H.mk [ints T, ints W, [AV.msl 1 0 n (9223372036854775808 : Nat) (1 : Nat)], [I 0], ints (isW W U (m - (1 : Nat)))] [] []) = (AV.tup [], H.mk [ints ((T, W, U), n, m).fst.fst, ints ((T, W, U), n, m).fst.snd.fst, [AV.msl 1 0 ((T, W, U), n, m).snd.fst (9223372036854775808 : Nat) (1 : Nat)], [I 0], ints (isW ((T, W, U), n, m).fst.snd.fst ((T, W, U), n, m).fst.snd.snd (((T, W, U), n, m).snd.snd - (1 : Nat)))] [] [])) (by kernel_rfl) ?_
  refine ⟨acall_hit (c := c118) ((T, W, U), n, m) _ rfl hp, ?_⟩
  rfl
/-- 'SortStableFunc' of players by their wins -/
noncomputable def c92 : Ctr Tryd.prog where
  f := 92
  X := XU
  args x := [mU x.2.2, fW]
  pre x h := pU x h
  res x _ := resU x
  det := by
    intro x y h e p q
    simp only [List.cons.injEq, AV.msl.injEq, AV.int.injEq, true_and, and_true] at e
    exact detU p q e
  ok := by
    intro x h p
    have h1 := p.1
    subst h1
    exact ⟨ok92.call, (r92 x p).run ok92 (.eff c118 rfl .nil) rfl⟩
end Go.Proofs.Rnk

