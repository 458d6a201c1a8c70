/- Layer 2: the library's sort of at most eight integers. -/
import Derived.Test.YtnnhomkkggkkfaaDoorRkH
import Derived.Test.YtnnhomkkggkkfaaDoorVm8
import Derived.KernelRfl
set_option linter.unusedSimpArgs false
set_option linter.unusedVariables false
set_option linter.unnecessarySimpa false
set_option maxHeartbeats 4000000
set_option maxRecDepth 100000
namespace Go.Proofs.Rnk
open Go Go.VM
open Go.Proofs.Sur (andn andn_bit andn_le i_wrap i_and i_or i_andn i_shl i_shr bit_01)

theorem ok103 : FokM Tryd.prog none1 103 Tryd.f103 := ⟨mixed, by kernel_rfl, by kernel_rfl, by kernel_rfl, by kernel_rfl⟩
theorem r103 (x : Int) (hp : True) : Body ⟨Tryd.prog, Sof (P := Tryd.prog) [], Pof (P := Tryd.prog) [], H.nil.base, 300⟩ none1 Tryd.f103 [I x] .nil (.bool false, .nil) := by
  have hx : x = x := rfl
  refine body_s ([Ans.o (Orc.b false)]) (x = x ∧ (AV.bool false, H.mk [] [] []) = (AV.bool false, H.mk [] [] [])) (by kernel_rfl) ?_
  refine ⟨by first | with_reducible assumption | omega | assumption, ?_⟩
  first | with_reducible rfl | (refine bleaf_t ?_; omega) | (refine bleaf_f ?_; omega) | (refine ileaf ?_; omega) | rfl | (exfalso; omega)
noncomputable def c103 : PCtr Tryd.prog := sctr ok103 (X := Int) (fun x => [I x]) (fun x => True) (fun x => .bool false) (by intro x y e _ _; simp [Int.natCast_inj] at e; simp [e]) (fun x => by simp [AV.bnds, AV.bnd, AV.wk, rm_wk_bnd]) (fun x => by first | rfl | (simp [AV.bnd, rm_wk_bnd]; done)  | (simp [AV.bnd, AV.bnds, rm_wk_bnd]; done) | simp [AV.bnd, AV.bnds, Room.bnd, rm_wk_bnd]) (fun x hx => ⟨_, _, _, .nil, r103 (x) hx⟩)
theorem ok112 : FokM Tryd.prog none1 112 Tryd.f112 := ⟨mixed, by kernel_rfl, by kernel_rfl, by kernel_rfl, by kernel_rfl⟩
theorem r112 (x : Int) (y : Int) (hp : True) : Body ⟨Tryd.prog, Sof (P := Tryd.prog) [c103.to], Pof (P := Tryd.prog) [], H.nil.base, 300⟩ none1 Tryd.f112 [I x, I y] .nil (.bool (decide (x < y)), .nil) := by
  by_cases h : x < y
  · rw [decide_eq_true h]
    refine body_s ([Ans.o (Orc.val 6 (AV.bool false) (H.mk [] [] [])), Ans.o (Orc.b true)]) (aCall (Sof [c103.to]) (AV.fn (Fn.func (103 : Nat)) [] []) [I x] (H.mk [] [] []) = some (AV.bool false, H.mk [] [] []) ∧ x < y ∧ (AV.bool true, H.mk [] [] []) = (AV.bool true, H.mk [] [] [])) (by kernel_rfl) ?_
    refine ⟨by first | exact acall_hit (c := c103.to) x _ rfl trivial | exact acall_hit (c := c103.to) y _ rfl trivial, ?_⟩
    refine ⟨by first | with_reducible assumption | omega | assumption, ?_⟩
    first | with_reducible rfl | (refine bleaf_t ?_; omega) | (refine bleaf_f ?_; omega) | (refine ileaf ?_; omega) | rfl | (exfalso; omega)
  · rw [decide_eq_false h]
    have h' : y ≤ x := by omega
    refine body_s ([Ans.o (Orc.val 6 (AV.bool false) (H.mk [] [] [])), Ans.o (Orc.b false)]) (aCall (Sof [c103.to]) (AV.fn (Fn.func (103 : Nat)) [] []) [I x] (H.mk [] [] []) = some (AV.bool false, H.mk [] [] []) ∧ y ≤ x ∧ (AV.bool false, H.mk [] [] []) = (AV.bool false, H.mk [] [] [])) (by kernel_rfl) ?_
    refine ⟨by first | exact acall_hit (c := c103.to) x _ rfl trivial | exact acall_hit (c := c103.to) y _ rfl trivial, ?_⟩
    refine ⟨by first | with_reducible assumption | omega | assumption, ?_⟩
    first | with_reducible rfl | (refine bleaf_t ?_; omega) | (refine bleaf_f ?_; omega) | (refine ileaf ?_; omega) | rfl | (exfalso; omega)
noncomputable def c112 : PCtr Tryd.prog := sctr ok112 (X := Int × Int) (fun x => [I x.1, I x.2]) (fun x => True) (fun x => .bool (decide (x.1 < x.2))) (by intro x y e _ _; simp [Int.natCast_inj] at e; simp [e]) (fun x => by simp [AV.bnds, AV.bnd, AV.wk, rm_wk_bnd]) (fun x => by first | rfl | (simp [AV.bnd, rm_wk_bnd]; done)  | (simp [AV.bnd, AV.bnds, rm_wk_bnd]; done) | simp [AV.bnd, AV.bnds, Room.bnd, rm_wk_bnd]) (fun x hx => ⟨_, _, _, .pure c103 (.nil), r112 (x.1) (x.2) hx⟩)
/-- two neighbours exchanged -/
abbrev sw (l : List Int) (j : Nat) : List Int := (l.set (j + 1) (l.getD j i0)).set j (l.getD (j + 1) i0)
/-- one element sinks to its place -/
def sk (l : List Int) : Nat → List Int
  | 0 => l
  | j + 1 => if l.getD (j + 1) i0 < l.getD j i0 then sk (sw l j) j else l
def isr (l : List Int) : Nat → List Int
  | 0 => l
  | m + 1 => sk (isr l m) (m + 1)
abbrev isrt (l : List Int) : List Int := isr l (l.length - 1)
theorem sk_len : ∀ (j : Nat) (l : List Int), (sk l j).length = l.length
  | 0, l => rfl
  | j + 1, l => by
    simp only [sk]; split
    · rw [sk_len j]; simp
    · rfl
theorem isr_len (l : List Int) : ∀ m, (isr l m).length = l.length
  | 0 => rfl
  | m + 1 => by simp only [isr]; rw [sk_len, isr_len l m]
abbrev hI (l : List Int) : H := ⟨[ints l], [], []⟩
noncomputable abbrev EnI (cs : List (Ctr Tryd.prog)) : Env := ⟨Tryd.prog, Sof (P := Tryd.prog) cs, Pof (P := Tryd.prog) [], ⟨1, 0, 0⟩, 300⟩
abbrev mI (n : Nat) : AV := .msl 0 0 n n 1
abbrev o106b (n i : Nat) (l : List Int) : List Out := [.mk Unit (.exit 2) [0, 1, 2, 6] (fun _ => True) (fun _ => [mI n, I 0, I n, I i]) (fun _ => hI (sk l i)) (fun _ => [])]
theorem simp106b : allSimpleM none1 (loopAt Tryd.f106 1) = true := by kernel_rfl
theorem lp106b (n i : Nat) (l : List Int) (hn : n ≤ 100) (hl : l.length = n) (hi : i < n) :
    LoopS (EnI [c112.to]) (loopAt Tryd.f106 1) 49 [0, 1, 2, 6, 7] [mI n, I 0, I n, I i, I i] (hI l) (o106b n i l) := by
  have hR : Rests (EnI [c112.to]) none1 := rests mixed (.pure _ .nil)
  refine loop_s hR simp106b none (by intro _ h; cases h) (fun r vs h => ∃ (j : Nat) (cur : List Int), j + r = i ∧ cur.length = n ∧ sk cur j = sk l i ∧ h = hI cur ∧ vs = [mI n, I 0, I n, I i, I j]) i ⟨i, l, rfl, hl, rfl, rfl, rfl⟩ (by intro _ h; cases h) ?_
  rintro r vs h hr ⟨j, cur, e1, e2, e3, rfl, rfl⟩
  match j, e1, e3 with
  | 0, e1, e3 =>
    have e3 : cur = sk l i := e3
    rw [e3]
    refine ⟨[Ans.o Orc.dflt], fun u => of_eq ((49 : Nat) = (49 : Nat) ∧ hits [Out.mk Unit (AX.exit (2 : Nat)) [(0 : Nat), (1 : Nat), (2 : Nat), (6 : Nat)] (fun x => True) (fun x => [mI n, I 0, I (↑n : Int), I (↑i : Int)]) (fun x => hI (sk l i)) fun x => []] (AX.exit (2 : Nat)) [AV.msl 0 0 n n (1 : Nat), I 0, I (↑n : Int), u (3 : Nat), u (4 : Nat), u (5 : Nat), I (↑i : Int), I 0, u (8 : Nat), u (9 : Nat), u (10 : Nat), u (11 : Nat), u (12 : Nat), u (13 : Nat), u (14 : Nat), u (15 : Nat), I 0, I 0, AV.bool false, AV.bool false, AV.tup [], AV.tup [], AV.tup [], AV.tup [], AV.tup [], AV.tup [], AV.tup [], AV.tup [], AV.tup [], AV.tup [], AV.bool false, u (31 : Nat), u (32 : Nat), u (33 : Nat), u (34 : Nat), u (35 : Nat), u (36 : Nat), u (37 : Nat), u (38 : Nat), u (39 : Nat), u (40 : Nat), u (41 : Nat), u (42 : Nat), u (43 : Nat), u (44 : Nat), u (45 : Nat), u (46 : Nat), u (47 : Nat), u (48 : Nat)] (H.mk [ints (sk l i)] [] [])) (by kernel_rfl) ?_⟩
    refine ⟨by first | with_reducible assumption | omega | assumption, ?_⟩
    exact .inl ⟨(), trivial, rfl, rfl, rfl⟩
  | j + 1, e1, e3 =>
    have g0 : (0 : Int) < ((j + 1 : Nat) : Int) := by omega
    have ev0 : IntKind.i64.wrap (((j + 1 : Nat) : Int) - 1) = (j : Int) := by rw [wr _ (by omega) (by omega)]; omega
    have k1 : j + 1 < n := by omega
    have k2 : j < n := by omega
    by_cases c : cur.getD (j + 1) i0 < cur.getD j i0
    · have hd : decide (cur.getD (j + 1) i0 < cur.getD j i0) = true := decide_eq_true c
      have e4 : sk (sw cur j) j = sk l i := by rw [← e3]; simp only [sk]; rw [if_pos c]
      have e5 : (sw cur j).length = n := by simp [e2]
      have e6 : j + (r + 1) = i := by omega
      refine ⟨[Ans.o (Orc.b true), Ans.o (Orc.val 22 (AV.ptr 0 (j + (1 : Nat))) H.nil), Ans.o (Orc.val 23 (I (cur.getD (j + (1 : Nat)) i0)) H.nil), Ans.o (Orc.val 26 (I (↑j : Int)) H.nil), Ans.o (Orc.val 27 (AV.ptr 0 j) H.nil), Ans.o (Orc.val 28 (I (cur.getD j i0)) H.nil), Ans.o (Orc.val 29 (AV.bool true) (H.mk [ints cur] [] [])), Ans.o (Orc.val 37 (I (↑j : Int)) H.nil), Ans.o (Orc.val 40 (I (↑j : Int)) H.nil), Ans.o (Orc.val 41 (AV.ptr 0 j) H.nil), Ans.o (Orc.val 42 (I (cur.getD j i0)) H.nil), Ans.o (Orc.val 45 (AV.ptr 0 (j + (1 : Nat))) H.nil), Ans.o (Orc.val 46 (I (cur.getD (j + (1 : Nat)) i0)) H.nil), Ans.o (Orc.val 47 (AV.ptr 0 (j + (1 : Nat))) H.nil), Ans.o (Orc.val 9999 (AV.tup []) (H.mk [ints (cur.set (j + (1 : Nat)) (cur.getD j i0))] [] [])), Ans.o (Orc.val 48 (AV.ptr 0 j) H.nil), Ans.o (Orc.val 9999 (AV.tup []) (H.mk [ints ((cur.set (j + (1 : Nat)) (cur.getD j i0)).set j (cur.getD (j + (1 : Nat)) i0))] [] [])), Ans.o (Orc.val 32 (I (↑j : Int)) H.nil)], fun u => of_eq ((0 : Int) < (↑(j + (1 : Nat)) : Int) ∧ aIndexAddr Tryd.prog (22 : Nat) (AV.msl 0 0 n n (1 : Nat)) (I (↑(j + (1 : Nat)) : Int)) = some (AV.ptr 0 (j + (1 : Nat))) ∧ aLoad Tryd.prog (3 : Nat) (List.drop (j + (1 : Nat)) (ints cur)) = some (I (cur.getD (j + (1 : Nat)) i0)) ∧ aBin Tryd.prog BinOp.sub (3 : Nat) (I (↑(j + (1 : Nat)) : Int)) (I 1) = some (I (↑j : Int)) ∧ aIndexAddr Tryd.prog (22 : Nat) (AV.msl 0 0 n n (1 : Nat)) (I (↑j : Int)) = some (AV.ptr 0 j) ∧ aLoad Tryd.prog (3 : Nat) (List.drop j (ints cur)) = some (I (cur.getD j i0)) ∧ aCall (Sof [c112.to]) (AV.fn (Fn.func (112 : Nat)) [] []) [I (cur.getD (j + (1 : Nat)) i0), I (cur.getD j i0)] (H.mk [ints cur] [] []) = some (AV.bool true, H.mk [ints cur] [] []) ∧ aBin Tryd.prog BinOp.sub (3 : Nat) (I (↑(j + (1 : Nat)) : Int)) (I 1) = some (I (↑j : Int)) ∧ aBin Tryd.prog BinOp.sub (3 : Nat) (I (↑(j + (1 : Nat)) : Int)) (I 1) = some (I (↑j : Int)) ∧ aIndexAddr Tryd.prog (22 : Nat) (AV.msl 0 0 n n (1 : Nat)) (I (↑j : Int)) = some (AV.ptr 0 j) ∧ aLoad Tryd.prog (3 : Nat) (List.drop j (ints cur)) = some (I (cur.getD j i0)) ∧ aIndexAddr Tryd.prog (22 : Nat) (AV.msl 0 0 n n (1 : Nat)) (I (↑(j + (1 : Nat)) : Int)) = some (AV.ptr 0 (j + (1 : Nat))) ∧ aLoad Tryd.prog (3 : Nat) (List.drop (j + (1 : Nat)) (ints cur)) = some (I (cur.getD (j + (1 : Nat)) i0)) ∧ aIndexAddr Tryd.prog (22 : Nat) (AV.msl 0 0 n n (1 : Nat)) (I (↑(j + (1 : Nat)) : Int)) = some (AV.ptr 0 (j + (1 : Nat))) ∧ aStore Tryd.prog (Base.mk (1 : Nat) (0 : Nat) (0 : Nat)) (3 : Nat) (AV.ptr 0 (j + (1 : Nat))) (I (cur.getD j i0)) (H.mk [ints cur] [] []) = some (H.mk [ints (cur.set (j + (1 : Nat)) (cur.getD j i0))] [] []) ∧ aIndexAddr Tryd.prog (22 : Nat) (AV.msl 0 0 n n (1 : Nat)) (I (↑j : Int)) = some (AV.ptr 0 j) ∧ aStore Tryd.prog (Base.mk (1 : Nat) (0 : Nat) (0 : Nat)) (3 : Nat) (AV.ptr 0 j) (I (cur.getD (j + (1 : Nat)) i0)) (H.mk [ints (cur.set (j + (1 : Nat)) (cur.getD j i0))] [] []) = some (H.mk [ints ((cur.set (j + (1 : Nat)) (cur.getD j i0)).set j (cur.getD (j + (1 : Nat)) i0))] [] []) ∧ aBin Tryd.prog BinOp.sub (3 : Nat) (I (↑(j + (1 : Nat)) : Int)) (I 1) = some (I (↑j : Int)) ∧ (49 : Nat) = (49 : Nat) ∧ r < i ∧ Keep (∃ j_1 cur_1, j_1 + (r + (1 : Nat)) = i ∧ cur_1.length = n ∧ sk cur_1 j_1 = sk l i ∧ H.mk [ints ((cur.set (j + (1 : Nat)) (cur.getD j i0)).set j (cur.getD (j + (1 : Nat)) i0))] [] [] = H.mk [ints cur_1] [] [] ∧ [AV.msl 0 0 n n (1 : Nat), I 0, I (↑n : Int), I (↑i : Int), I (↑j : Int)] = [AV.msl 0 0 n n (1 : Nat), I 0, I (↑n : Int), I (↑i : Int), I (↑j_1 : Int)])) (by kernel_rfl) ?_⟩
      refine ⟨by first | with_reducible assumption | omega | assumption, ?_⟩
      refine ⟨by first | exact ixm0 (by kernel_rfl) k1 | exact ixm0 (by kernel_rfl) k2, ?_⟩
      refine ⟨by first | exact ldm_ints (by kernel_rfl) (by kernel_rfl) (by rw [e2]; exact k1) | exact ldm_ints (by kernel_rfl) (by kernel_rfl) (by rw [e2]; exact k2), ?_⟩
      refine ⟨told_sub (by with_reducible assumption), ?_⟩
      refine ⟨by first | exact ixm0 (by kernel_rfl) k1 | exact ixm0 (by kernel_rfl) k2, ?_⟩
      refine ⟨by first | exact ldm_ints (by kernel_rfl) (by kernel_rfl) (by rw [e2]; exact k1) | exact ldm_ints (by kernel_rfl) (by kernel_rfl) (by rw [e2]; exact k2), ?_⟩
      refine ⟨acall_b (acall_hit (c := c112.to) (cur.getD (j + 1) i0, cur.getD j i0) _ rfl trivial) hd, ?_⟩
      refine ⟨told_sub (by with_reducible assumption), ?_⟩
      refine ⟨told_sub (by with_reducible assumption), ?_⟩
      refine ⟨by first | exact ixm0 (by kernel_rfl) k1 | exact ixm0 (by kernel_rfl) k2, ?_⟩
      refine ⟨by first | exact ldm_ints (by kernel_rfl) (by kernel_rfl) (by rw [e2]; exact k1) | exact ldm_ints (by kernel_rfl) (by kernel_rfl) (by rw [e2]; exact k2), ?_⟩
      refine ⟨by first | exact ixm0 (by kernel_rfl) k1 | exact ixm0 (by kernel_rfl) k2, ?_⟩
      refine ⟨by first | exact ldm_ints (by kernel_rfl) (by kernel_rfl) (by rw [e2]; exact k1) | exact ldm_ints (by kernel_rfl) (by kernel_rfl) (by rw [e2]; exact k2), ?_⟩
      refine ⟨by first | exact ixm0 (by kernel_rfl) k1 | exact ixm0 (by kernel_rfl) k2, ?_⟩
      refine ⟨by first | exact st_ints (by kernel_rfl) rfl (by rw [e2]; exact k1) | exact st_ints (by kernel_rfl) rfl (by rw [List.length_set, e2]; exact k2), ?_⟩
      refine ⟨by first | exact ixm0 (by kernel_rfl) k1 | exact ixm0 (by kernel_rfl) k2, ?_⟩
      refine ⟨by first | exact st_ints (by kernel_rfl) rfl (by rw [e2]; exact k1) | exact st_ints (by kernel_rfl) rfl (by rw [List.length_set, e2]; exact k2), ?_⟩
      refine ⟨told_sub (by with_reducible assumption), ?_⟩
      refine ⟨by first | with_reducible assumption | omega | assumption, ?_⟩
      refine ⟨by first | with_reducible assumption | omega | assumption, ?_⟩
      exact ⟨j, sw cur j, e6, e5, e4, rfl, rfl⟩
    · have hd : decide (cur.getD (j + 1) i0 < cur.getD j i0) = false := decide_eq_false c
      have e4 : cur = sk l i := by rw [← e3]; simp only [sk]; rw [if_neg c]
      refine ⟨[Ans.o (Orc.b true), Ans.o (Orc.val 22 (AV.ptr 0 (j + (1 : Nat))) H.nil), Ans.o (Orc.val 23 (I (cur.getD (j + (1 : Nat)) i0)) H.nil), Ans.o (Orc.val 26 (I (↑j : Int)) H.nil), Ans.o (Orc.val 27 (AV.ptr 0 j) H.nil), Ans.o (Orc.val 28 (I (cur.getD j i0)) H.nil), Ans.o (Orc.val 29 (AV.bool false) (H.mk [ints cur] [] []))], fun u => of_eq ((0 : Int) < (↑(j + (1 : Nat)) : Int) ∧ aIndexAddr Tryd.prog (22 : Nat) (AV.msl 0 0 n n (1 : Nat)) (I (↑(j + (1 : Nat)) : Int)) = some (AV.ptr 0 (j + (1 : Nat))) ∧ aLoad Tryd.prog (3 : Nat) (List.drop (j + (1 : Nat)) (ints cur)) = some (I (cur.getD (j + (1 : Nat)) i0)) ∧ aBin Tryd.prog BinOp.sub (3 : Nat) (I (↑(j + (1 : Nat)) : Int)) (I 1) = some (I (↑j : Int)) ∧ aIndexAddr Tryd.prog (22 : Nat) (AV.msl 0 0 n n (1 : Nat)) (I (↑j : Int)) = some (AV.ptr 0 j) ∧ aLoad Tryd.prog (3 : Nat) (List.drop j (ints cur)) = some (I (cur.getD j i0)) ∧ aCall (Sof [c112.to]) (AV.fn (Fn.func (112 : Nat)) [] []) [I (cur.getD (j + (1 : Nat)) i0), I (cur.getD j i0)] (H.mk [ints cur] [] []) = some (AV.bool false, H.mk [ints cur] [] []) ∧ (49 : Nat) = (49 : Nat) ∧ hits [Out.mk Unit (AX.exit (2 : Nat)) [(0 : Nat), (1 : Nat), (2 : Nat), (6 : Nat)] (fun x => True) (fun x => [mI n, I 0, I (↑n : Int), I (↑i : Int)]) (fun x => hI (sk l i)) fun x => []] (AX.exit (2 : Nat)) [AV.msl 0 0 n n (1 : Nat), I 0, I (↑n : Int), u (3 : Nat), u (4 : Nat), u (5 : Nat), I (↑i : Int), I (↑(j + (1 : Nat)) : Int), u (8 : Nat), u (9 : Nat), u (10 : Nat), u (11 : Nat), u (12 : Nat), u (13 : Nat), u (14 : Nat), u (15 : Nat), I (↑(j + (1 : Nat)) : Int), I 0, AV.bool true, AV.bool true, AV.msl 0 0 n n (1 : Nat), I (↑(j + (1 : Nat)) : Int), AV.ptr 0 (j + (1 : Nat)), I (cur.getD (j + (1 : Nat)) i0), AV.msl 0 0 n n (1 : Nat), I (↑(j + (1 : Nat)) : Int), I (↑j : Int), AV.ptr 0 j, I (cur.getD j i0), AV.bool false, AV.bool false, u (31 : Nat), u (32 : Nat), u (33 : Nat), u (34 : Nat), u (35 : Nat), u (36 : Nat), u (37 : Nat), u (38 : Nat), u (39 : Nat), u (40 : Nat), u (41 : Nat), u (42 : Nat), u (43 : Nat), u (44 : Nat), u (45 : Nat), u (46 : Nat), u (47 : Nat), u (48 : Nat)] (H.mk [ints cur] [] [])) (by kernel_rfl) ?_⟩
      refine ⟨by first | with_reducible assumption | omega | assumption, ?_⟩
      refine ⟨by first | exact ixm0 (by kernel_rfl) k1 | exact ixm0 (by kernel_rfl) k2, ?_⟩
      refine ⟨by first | exact ldm_ints (by kernel_rfl) (by kernel_rfl) (by rw [e2]; exact k1) | exact ldm_ints (by kernel_rfl) (by kernel_rfl) (by rw [e2]; exact k2), ?_⟩
      refine ⟨told_sub (by with_reducible assumption), ?_⟩
      refine ⟨by first | exact ixm0 (by kernel_rfl) k1 | exact ixm0 (by kernel_rfl) k2, ?_⟩
      refine ⟨by first | exact ldm_ints (by kernel_rfl) (by kernel_rfl) (by rw [e2]; exact k1) | exact ldm_ints (by kernel_rfl) (by kernel_rfl) (by rw [e2]; exact k2), ?_⟩
      refine ⟨acall_b (acall_hit (c := c112.to) (cur.getD (j + 1) i0, cur.getD j i0) _ rfl trivial) hd, ?_⟩
      refine ⟨by first | with_reducible assumption | omega | assumption, ?_⟩
      exact .inl ⟨(), trivial, rfl, rfl, by rw [e4]⟩
abbrev o106 (l : List Int) : List Out := [.mk Unit (.exit 0) [] (fun _ => True) (fun _ => []) (fun _ => hI (isrt l)) (fun _ => [])]
theorem simp106 : allSimpleM none1 (loopAt Tryd.f106 0) = true := by kernel_rfl
theorem lp106 (n : Nat) (l : List Int) (hn : n ≤ 100) (h1 : 1 ≤ n) (hl : l.length = n) :
    LoopS (EnI [c112.to]) (loopAt Tryd.f106 0) 49 [0, 1, 2, 6] [mI n, I 0, I n, I 1] (hI l) (o106 l) := by
  have hR : Rests (EnI [c112.to]) none1 := rests mixed (.pure _ .nil)
  refine loop_s hR simp106 none (by intro _ h; cases h) (fun r vs h => h = hI (isr l r) ∧ vs = [mI n, I 0, I n, I ((r + 1 : Nat) : Int)] ∧ r + 1 ≤ n) n ⟨rfl, rfl, by omega⟩ (by intro _ h; cases h) ?_
  rintro r vs h hr ⟨rfl, rfl, hle⟩
  have ev0 := wj1 (j := r + 1) (by omega)
  by_cases hz : ((r + 1 : Nat) : Int) < n
  · have lp := lp106b n (r + 1) (isr l r) hn (by rw [isr_len]; exact hl) (by omega)
    have hle' : r + 1 + 1 ≤ n := by omega
    refine ⟨[Ans.o (Orc.b true), Ans.loop [(0 : Nat), (1 : Nat), (2 : Nat), (6 : Nat), (7 : Nat)] [Out.mk Unit (AX.exit (2 : Nat)) [(0 : Nat), (1 : Nat), (2 : Nat), (6 : Nat)] (fun x => True) (fun x => [mI n, I 0, I (↑n : Int), I (↑(r + (1 : Nat)) : Int)]) (fun x => hI (sk (isr l r) (r + (1 : Nat)))) fun y => [Ans.o (Orc.val 14 (I (↑(r + (1 : Nat) + (1 : Nat)) : Int)) H.nil)]]], fun u => of_eq ((↑(r + (1 : Nat)) : Int) < (↑n : Int) ∧ LoopS (Env.mk Tryd.prog (Sof [c112.to]) (Pof (P := Tryd.prog) []) (Base.mk (1 : Nat) (0 : Nat) (0 : Nat)) (300 : Nat)) (loopAt Tryd.f106 (1 : Nat)) (49 : Nat) [(0 : Nat), (1 : Nat), (2 : Nat), (6 : Nat), (7 : Nat)] [AV.msl 0 0 n n (1 : Nat), I 0, I (↑n : Int), I (↑(r + (1 : Nat)) : Int), I (↑(r + (1 : Nat)) : Int)] (H.mk [ints (isr l r)] [] []) [Out.mk Unit (AX.exit (2 : Nat)) [(0 : Nat), (1 : Nat), (2 : Nat), (6 : Nat)] (fun x => True) (fun x => [mI n, I 0, I (↑n : Int), I (↑(r + (1 : Nat)) : Int)]) (fun x => hI (sk (isr l r) (r + (1 : Nat)))) fun y => [Ans.o (Orc.val 14 (I (↑(r + (1 : Nat) + (1 : Nat)) : Int)) H.nil)]] ∧ (∀ (y : Unit), True → ∀ (u : Nat → AV), aBin Tryd.prog BinOp.add (3 : Nat) (I (↑(r + (1 : Nat)) : Int)) (I 1) = some (I (↑(r + (1 : Nat) + (1 : Nat)) : Int)) ∧ (49 : Nat) = (49 : Nat) ∧ r < n ∧ Keep (H.mk [ints (sk (isr l r) (r + (1 : Nat)))] [] [] = H.mk [ints (isr l (r + (1 : Nat)))] [] [] ∧ [AV.msl 0 0 n n (1 : Nat), I 0, I (↑n : Int), I (↑(r + (1 : Nat) + (1 : Nat)) : Int)] = [AV.msl 0 0 n n (1 : Nat), I 0, I (↑n : Int), I (↑(r + (1 : Nat) + (1 : Nat)) : Int)] ∧ r + (1 : Nat) + (1 : Nat) ≤ n)) ∧ True) (by kernel_rfl) ?_⟩
    refine ⟨by first | with_reducible assumption | omega | assumption, ?_⟩
    refine ⟨lp, ?_⟩
    refine And.intro ?_ ?_
    · skip
      intro y
      intro w1
      intro u
      refine ⟨told_add (by with_reducible assumption), ?_⟩
      refine ⟨by first | with_reducible assumption | omega | assumption, ?_⟩
      refine ⟨by first | with_reducible assumption | omega | assumption, ?_⟩
      exact ⟨rfl, rfl, hle'⟩
    · skip
      trivial
  · have hz : (n : Int) ≤ ((r + 1 : Nat) : Int) := by omega
    have e : isr l r = isrt l := by show _ = isr l (l.length - 1); rw [show l.length - 1 = r by omega]
    rw [e]
    refine ⟨[Ans.o (Orc.b false)], fun u => of_eq ((↑n : Int) ≤ (↑(r + (1 : Nat)) : Int) ∧ (49 : Nat) = (49 : Nat) ∧ hits [Out.mk Unit (AX.exit (0 : Nat)) [] (fun x => True) (fun x => []) (fun x => hI (isrt l)) fun x => []] (AX.exit (0 : Nat)) [AV.msl 0 0 n n (1 : Nat), I 0, I (↑n : Int), u (3 : Nat), u (4 : Nat), u (5 : Nat), I (↑(r + (1 : Nat)) : Int), u (7 : Nat), u (8 : Nat), u (9 : Nat), I (↑(r + (1 : Nat)) : Int), I (↑n : Int), AV.bool false, u (13 : Nat), u (14 : Nat), u (15 : Nat), u (16 : Nat), u (17 : Nat), u (18 : Nat), u (19 : Nat), u (20 : Nat), u (21 : Nat), u (22 : Nat), u (23 : Nat), u (24 : Nat), u (25 : Nat), u (26 : Nat), u (27 : Nat), u (28 : Nat), u (29 : Nat), u (30 : Nat), u (31 : Nat), u (32 : Nat), u (33 : Nat), u (34 : Nat), u (35 : Nat), u (36 : Nat), u (37 : Nat), u (38 : Nat), u (39 : Nat), u (40 : Nat), u (41 : Nat), u (42 : Nat), u (43 : Nat), u (44 : Nat), u (45 : Nat), u (46 : Nat), u (47 : Nat), u (48 : Nat)] (H.mk [ints (isrt l)] [] [])) (by kernel_rfl) ?_⟩
    refine ⟨by first | with_reducible assumption | omega | assumption, ?_⟩
    refine ⟨by first | with_reducible assumption | omega | assumption, ?_⟩
    exact .inl ⟨(), trivial, rfl, rfl, rfl⟩
theorem ok106 : FokM Tryd.prog none1 106 Tryd.f106 := ⟨mixed, by kernel_rfl, by kernel_rfl, by kernel_rfl, by kernel_rfl⟩
theorem r106 (n : Nat) (l : List Int) (hn : n ≤ 8) (h1 : 1 ≤ n) (hl : l.length = n) : Body (EnI [c112.to]) none1 Tryd.f106 [mI n, I 0, I n] (hI l) (.tup [], hI (isrt l)) := by
  have lp := lp106 n l (by omega) h1 hl
  refine body_s ([Ans.loop [(0 : Nat), (1 : Nat), (2 : Nat), (6 : Nat)] [Out.mk Unit (AX.exit (0 : Nat)) [] (fun x => True) (fun x => []) (fun x => hI (isrt l)) fun y => []]]) (IntKind.i64.wrap (1 : Int) = (1 : Int) ∧ LoopS (Env.mk Tryd.prog (Sof [c112.to]) (Pof (P := Tryd.prog) []) (Base.mk (1 : Nat) (0 : Nat) (0 : Nat)) (300 : Nat)) (loopAt Tryd.f106 (0 : Nat)) (49 : Nat) [(0 : Nat), (1 : Nat), (2 : Nat), (6 : Nat)] [AV.msl 0 0 n n (1 : Nat), I 0, I (↑n : Int), I 1] (H.mk [ints l] [] []) [Out.mk Unit (AX.exit (0 : Nat)) [] (fun x => True) (fun x => []) (fun x => hI (isrt l)) fun y => []] ∧ (∀ (y : Unit), True → ∀ (u : Nat → AV), (AV.tup [], H.mk [ints (isrt l)] [] []) = (AV.tup [], H.mk [ints (isrt l)] [] [])) ∧ True) (by kernel_rfl) ?_
  refine ⟨wr _ (by omega) (by omega), ?_⟩
  refine ⟨lp, ?_⟩
  refine And.intro ?_ ?_
  · skip
    intro y
    intro w1
    intro u
    rfl
  · skip
    trivial
abbrev pI (n : Nat) (l : List Int) (h : H) : Prop := h = hI l ∧ l.length = n ∧ 1 ≤ n ∧ n ≤ 8
noncomputable def c106 : Ctr Tryd.prog where
  f := 106
  X := Nat × List Int
  args x := [mI x.1, I 0, I x.1]
  pre x h := pI x.1 x.2 h
  res x _ := (.tup [], hI (isrt x.2))
  det := by
    rintro ⟨n, l⟩ ⟨m, q⟩ h e ⟨h1, _⟩ ⟨h2, _⟩
    have h1 : h = hI l := h1
    have h2 : h = hI q := h2
    rw [h1] at h2
    simp only [hI, H.mk.injEq, List.cons.injEq, and_true] at h2
    rw [ints_inj h2]
  ok := by
    rintro ⟨n, l⟩ h ⟨h1, h2, h3, h4⟩
    have h1 : h = hI l := h1
    subst h1
    exact ⟨ok106.call, (r106 n l h4 h3 h2).run ok106 (.pure _ .nil) rfl⟩
abbrev M106 : FuncId → Bool := (· == 106)
theorem ok88 : FokM Tryd.prog M106 88 Tryd.f88 := ⟨mixed, by kernel_rfl, by kernel_rfl, by kernel_rfl, by kernel_rfl⟩
theorem r88 (n : Nat) (l : List Int) (q : Int) (hn : n ≤ 8) (h1 : 1 ≤ n) (hl : l.length = n) : Body (EnI [c106]) M106 Tryd.f88 [mI n, I 0, I n, I q] (hI l) (.tup [], hI (isrt l)) := by
  have ev0 : IntKind.i64.wrap ((n : Int) - 0) = (n : Int) := by rw [wr _ (by omega) (by omega)]; omega
  have hle : (n : Int) ≤ 12 := by omega
  refine body_s ([Ans.o (Orc.val 21 (I (↑n : Int)) H.nil), Ans.o (Orc.b true), Ans.o (Orc.val 27 (AV.tup []) (H.mk [ints (isrt l)] [] []))]) (aBin Tryd.prog BinOp.sub (3 : Nat) (I (↑n : Int)) (I 0) = some (I (↑n : Int)) ∧ (↑n : Int) ≤ (12 : Int) ∧ aCall (Sof [c106]) (AV.fn (Fn.func (106 : Nat)) [] []) [AV.msl 0 0 n n (1 : Nat), I 0, I (↑n : Int)] (H.mk [ints l] [] []) = some (AV.tup [], H.mk [ints (isrt l)] [] []) ∧ (AV.tup [], H.mk [ints (isrt l)] [] []) = (AV.tup [], H.mk [ints (isrt l)] [] [])) (by kernel_rfl) ?_
  refine ⟨told_sub (by with_reducible assumption), ?_⟩
  refine ⟨by first | with_reducible assumption | omega | assumption, ?_⟩
  refine ⟨acall_hit (c := c106) (n, l) _ rfl ⟨rfl, hl, h1, hn⟩, ?_⟩
  rfl
noncomputable def c88 : Ctr Tryd.prog where
  f := 88
  X := (Nat × List Int) × Int
  args x := [mI x.1.1, I 0, I x.1.1, I x.2]
  pre x h := pI x.1.1 x.1.2 h
  res x _ := (.tup [], hI (isrt x.1.2))
  det := by
    rintro ⟨⟨n, l⟩, a⟩ ⟨⟨m, q⟩, b⟩ h e ⟨h1, _⟩ ⟨h2, _⟩
    have h1 : h = hI l := h1
    have h2 : h = hI q := h2
    rw [h1] at h2
    simp only [hI, H.mk.injEq, List.cons.injEq, and_true] at h2
    rw [ints_inj h2]
  ok := by
    rintro ⟨⟨n, l⟩, a⟩ h ⟨h1, h2, h3, h4⟩
    have h1 : h = hI l := h1
    subst h1
    exact ⟨ok88.call, (r88 n l a h4 h3 h2).run ok88 (.eff c106 rfl .nil) rfl⟩
/-- how many bits a number has -/
def lenN (n : Nat) : Nat := if n = 0 then 0 else if n < 2 then 1 else if n < 4 then 2 else if n < 8 then 3 else 4
noncomputable def run89 (s : Nat) : Bool := resIs (deepW Tryd.prog (fun _ => false) (fun _ => false) 100 3 0 89 [.int .u64 s] .nil) (.int .i64 (lenN s : Nat))
theorem all89 : (List.range 9).all run89 = true := by kernel_rfl
theorem call89 : callable Tryd.prog 89 = true := by kernel_rfl
noncomputable def c89 : PCtr Tryd.prog where
  f := 89
  X := Nat
  args s := [.int .u64 s]
  pre s := s < 9
  v s := I (lenN s : Nat)
  det := by
    intro x y e _ _
    simp only [List.cons.injEq, AV.int.injEq, true_and, and_true] at e
    rw [show x = y by omega]
  ok s hs := ⟨call89, fun h => by
    have h1 := List.all_eq_true.1 all89 s (List.mem_range.2 hs)
    have h2 := deepW_ok (P := Tryd.prog) mixed 3 0 _ _ _ _ _ (resIs_ok h1)
    exact (pure_call (pure_callB h2.2 rfl rfl .nil) rfl rfl h).wk⟩
abbrev M88 : FuncId → Bool := (· == 88)
theorem ok58 : FokM Tryd.prog M88 58 Tryd.f58 := ⟨mixed, by kernel_rfl, by kernel_rfl, by kernel_rfl, by kernel_rfl⟩
theorem r58 (n : Nat) (l : List Int) (hn : n ≤ 8) (h1 : 1 ≤ n) (hl : l.length = n) : Body (EnI [c89.to, c88]) M88 Tryd.f58 [mI n] (hI l) (.tup [], hI (isrt l)) := by
  have ev0 : IntKind.u64.wrap (n : Int) = (n : Int) := Sur.w_wrap (n := n) (by omega)
  have p89 : n < 9 := by omega
  refine body_s ([Ans.o (Orc.val 8 (AV.int IntKind.u64 (↑n : Int)) H.nil), Ans.o (Orc.val 9 (I (↑(lenN n) : Int)) (H.mk [ints l] [] [])), Ans.o (Orc.val 10 (AV.tup []) (H.mk [ints (isrt l)] [] []))]) (aConvert Tryd.prog (3 : Nat) (52 : Nat) (I (↑n : Int)) = some (AV.int IntKind.u64 (↑n : Int)) ∧ aCall (Sof [c89.to, c88]) (AV.fn (Fn.func (89 : Nat)) [] []) [AV.int IntKind.u64 (↑n : Int)] (H.mk [ints l] [] []) = some (I (↑(lenN n) : Int), H.mk [ints l] [] []) ∧ aCall (Sof [c89.to, c88]) (AV.fn (Fn.func (88 : Nat)) [] []) [AV.msl 0 0 n n (1 : Nat), I 0, I (↑n : Int), I (↑(lenN n) : Int)] (H.mk [ints l] [] []) = some (AV.tup [], H.mk [ints (isrt l)] [] []) ∧ (AV.tup [], H.mk [ints (isrt l)] [] []) = (AV.tup [], H.mk [ints (isrt l)] [] [])) (by kernel_rfl) ?_
  refine ⟨by first | exact told_conv (by kernel_rfl) (by kernel_rfl) (by with_reducible assumption) | exact told_conv (by kernel_rfl) (by kernel_rfl) ev0 | exact told_conv (by kernel_rfl) (by kernel_rfl) ev1 | exact told_conv (by kernel_rfl) (by kernel_rfl) ev2 | exact told_conv (by kernel_rfl) (by kernel_rfl) ev3 | exact told_conv (by kernel_rfl) (by kernel_rfl) ev4 | exact told_conv (by kernel_rfl) (by kernel_rfl) ev5 | exact told_conv (by kernel_rfl) (by kernel_rfl) ev6 | exact told_conv (by kernel_rfl) (by kernel_rfl) ev7 | exact told_conv (by kernel_rfl) (by kernel_rfl) ev8 | exact told_conv (by kernel_rfl) (by kernel_rfl) ev9 | exact told_conv (by kernel_rfl) (by kernel_rfl) ev10 | exact told_conv (by kernel_rfl) (by kernel_rfl) ev11, ?_⟩
  refine ⟨acall_hit (c := c89.to) n _ rfl p89, ?_⟩
  refine ⟨acall_hit (c := c88) ((n, l), ((lenN n : Nat) : Int)) _ rfl ⟨rfl, hl, h1, hn⟩, ?_⟩
  rfl
/-- Sort -/
noncomputable def c58 : Ctr Tryd.prog where
  f := 58
  X := Nat × List Int
  args x := [mI x.1]
  pre x h := pI x.1 x.2 h
  res x _ := (.tup [], hI (isrt x.2))
  det := by
    rintro ⟨n, l⟩ ⟨m, q⟩ h e ⟨h1, _⟩ ⟨h2, _⟩
    have h1 : h = hI l := h1
    have h2 : h = hI q := h2
    rw [h1] at h2
    simp only [hI, H.mk.injEq, List.cons.injEq, and_true] at h2
    rw [ints_inj h2]
  ok := by
    rintro ⟨n, l⟩ h ⟨h1, h2, h3, h4⟩
    have h1 : h = hI l := h1
    subst h1
    exact ⟨ok58.call, (r58 n l h4 h3 h2).run ok58 (.pure _ (.eff c88 rfl .nil)) rfl⟩
end Go.Proofs.Rnk

