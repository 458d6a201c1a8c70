/- Joined: EdBh, EdBi. -/
import Derived.Test.YtjobibaeklbkmaaDoorEdBg
import Derived.KernelRfl
set_option linter.unusedSimpArgs false
set_option linter.unusedVariables false
set_option linter.unnecessarySimpa false
section
set_option maxHeartbeats 4000000
set_option maxRecDepth 100000
namespace Go.Proofs.Evd
open Go Go.VM
open Go.Proofs.Sur (W w_wrap w_nat w_inj w_eq0 w_and w_or w_andn w_shl w_shr neg_nat sub_nat tz tz_ok cl bits_cons bits_0 bits_len andn andn_bit andn_le i_wrap i_and i_or i_andn i_shl i_shr bit_01)
theorem a124_2_0_1 : CallOk Tryd.prog 124 [I 2, I 0, I 1] .nil (I 0) .nil := acall_ok s0 (dsafeM_ok mixed s0 (pureBut_p _)) (n := 20) (by kernel_rfl)
theorem a124_2_1_0 : CallOk Tryd.prog 124 [I 2, I 1, I 0] .nil (I 0) .nil := acall_ok s0 (dsafeM_ok mixed s0 (pureBut_p _)) (n := 20) (by kernel_rfl)
theorem a124_3_0_1 : CallOk Tryd.prog 124 [I 3, I 0, I 1] .nil (I 0) .nil := acall_ok s0 (dsafeM_ok mixed s0 (pureBut_p _)) (n := 20) (by kernel_rfl)
theorem a124_3_0_2 : CallOk Tryd.prog 124 [I 3, I 0, I 2] .nil (I 1) .nil := acall_ok s0 (dsafeM_ok mixed s0 (pureBut_p _)) (n := 20) (by kernel_rfl)
theorem a124_3_1_0 : CallOk Tryd.prog 124 [I 3, I 1, I 0] .nil (I 0) .nil := acall_ok s0 (dsafeM_ok mixed s0 (pureBut_p _)) (n := 20) (by kernel_rfl)
theorem a124_3_1_2 : CallOk Tryd.prog 124 [I 3, I 1, I 2] .nil (I 2) .nil := acall_ok s0 (dsafeM_ok mixed s0 (pureBut_p _)) (n := 20) (by kernel_rfl)
theorem a124_3_2_0 : CallOk Tryd.prog 124 [I 3, I 2, I 0] .nil (I 1) .nil := acall_ok s0 (dsafeM_ok mixed s0 (pureBut_p _)) (n := 20) (by kernel_rfl)
theorem a124_3_2_1 : CallOk Tryd.prog 124 [I 3, I 2, I 1] .nil (I 2) .nil := acall_ok s0 (dsafeM_ok mixed s0 (pureBut_p _)) (n := 20) (by kernel_rfl)
theorem a124_4_0_1 : CallOk Tryd.prog 124 [I 4, I 0, I 1] .nil (I 0) .nil := acall_ok s0 (dsafeM_ok mixed s0 (pureBut_p _)) (n := 20) (by kernel_rfl)
theorem a124_4_0_2 : CallOk Tryd.prog 124 [I 4, I 0, I 2] .nil (I 1) .nil := acall_ok s0 (dsafeM_ok mixed s0 (pureBut_p _)) (n := 20) (by kernel_rfl)
theorem a124_4_0_3 : CallOk Tryd.prog 124 [I 4, I 0, I 3] .nil (I 2) .nil := acall_ok s0 (dsafeM_ok mixed s0 (pureBut_p _)) (n := 20) (by kernel_rfl)
theorem a124_4_1_0 : CallOk Tryd.prog 124 [I 4, I 1, I 0] .nil (I 0) .nil := acall_ok s0 (dsafeM_ok mixed s0 (pureBut_p _)) (n := 20) (by kernel_rfl)
theorem a124_4_1_2 : CallOk Tryd.prog 124 [I 4, I 1, I 2] .nil (I 3) .nil := acall_ok s0 (dsafeM_ok mixed s0 (pureBut_p _)) (n := 20) (by kernel_rfl)
theorem a124_4_1_3 : CallOk Tryd.prog 124 [I 4, I 1, I 3] .nil (I 4) .nil := acall_ok s0 (dsafeM_ok mixed s0 (pureBut_p _)) (n := 20) (by kernel_rfl)
theorem a124_4_2_0 : CallOk Tryd.prog 124 [I 4, I 2, I 0] .nil (I 1) .nil := acall_ok s0 (dsafeM_ok mixed s0 (pureBut_p _)) (n := 20) (by kernel_rfl)
theorem a124_4_2_1 : CallOk Tryd.prog 124 [I 4, I 2, I 1] .nil (I 3) .nil := acall_ok s0 (dsafeM_ok mixed s0 (pureBut_p _)) (n := 20) (by kernel_rfl)
theorem a124_4_2_3 : CallOk Tryd.prog 124 [I 4, I 2, I 3] .nil (I 5) .nil := acall_ok s0 (dsafeM_ok mixed s0 (pureBut_p _)) (n := 20) (by kernel_rfl)
theorem a124_4_3_0 : CallOk Tryd.prog 124 [I 4, I 3, I 0] .nil (I 2) .nil := acall_ok s0 (dsafeM_ok mixed s0 (pureBut_p _)) (n := 20) (by kernel_rfl)
theorem a124_4_3_1 : CallOk Tryd.prog 124 [I 4, I 3, I 1] .nil (I 4) .nil := acall_ok s0 (dsafeM_ok mixed s0 (pureBut_p _)) (n := 20) (by kernel_rfl)
theorem a124_4_3_2 : CallOk Tryd.prog 124 [I 4, I 3, I 2] .nil (I 5) .nil := acall_ok s0 (dsafeM_ok mixed s0 (pureBut_p _)) (n := 20) (by kernel_rfl)
/-- the number of the first pair of a node -/
def st (m i : Nat) : Nat := i * (2 * m - i - 1) / 2
/-- a pair's number -/
def nbr (m a b : Nat) : Nat := st m (min a b) + (max a b - min a b - 1)
noncomputable def c124 : PCtr Tryd.prog where
  f := 124
  X := Nat × Nat × Nat
  args x := [I x.1, I x.2.1, I x.2.2]
  pre x := (2 ≤ x.1 ∧ x.1 ≤ 4) ∧ x.2.1 < x.1 ∧ x.2.2 < x.1 ∧ x.2.1 ≠ x.2.2
  v x := I (nbr x.1 x.2.1 x.2.2)
  det := by
    rintro ⟨m, a, b⟩ ⟨m', a', b'⟩ e _ _
    simp at e
    obtain ⟨h1, h2, h3⟩ := e
    have h1 : m = m' := by omega
    have h2 : a = a' := by omega
    have h3 : b = b' := by omega
    subst h1; subst h2; subst h3; rfl
  ok := by
    rintro ⟨m, a, b⟩ ⟨h1, h2, h3, h4⟩
    refine ⟨by kernel_rfl, fun H => ?_⟩
    simp only at h1 h2 h3 h4
    have hm : m = 2 ∨ m = 3 ∨ m = 4 := by omega
    have ha : a = 0 ∨ a = 1 ∨ a = 2 ∨ a = 3 := by omega
    have hb : b = 0 ∨ b = 1 ∨ b = 2 ∨ b = 3 := by omega
    rcases hm with rfl | rfl | rfl <;> rcases ha with rfl | rfl | rfl | rfl <;> rcases hb with rfl | rfl | rfl | rfl
    · omega
    · exact pure_call a124_2_0_1 rfl rfl H
    · omega
    · omega
    · exact pure_call a124_2_1_0 rfl rfl H
    · omega
    · omega
    · omega
    · omega
    · omega
    · omega
    · omega
    · omega
    · omega
    · omega
    · omega
    · omega
    · exact pure_call a124_3_0_1 rfl rfl H
    · exact pure_call a124_3_0_2 rfl rfl H
    · omega
    · exact pure_call a124_3_1_0 rfl rfl H
    · omega
    · exact pure_call a124_3_1_2 rfl rfl H
    · omega
    · exact pure_call a124_3_2_0 rfl rfl H
    · exact pure_call a124_3_2_1 rfl rfl H
    · omega
    · omega
    · omega
    · omega
    · omega
    · omega
    · omega
    · exact pure_call a124_4_0_1 rfl rfl H
    · exact pure_call a124_4_0_2 rfl rfl H
    · exact pure_call a124_4_0_3 rfl rfl H
    · exact pure_call a124_4_1_0 rfl rfl H
    · omega
    · exact pure_call a124_4_1_2 rfl rfl H
    · exact pure_call a124_4_1_3 rfl rfl H
    · exact pure_call a124_4_2_0 rfl rfl H
    · exact pure_call a124_4_2_1 rfl rfl H
    · omega
    · exact pure_call a124_4_2_3 rfl rfl H
    · exact pure_call a124_4_3_0 rfl rfl H
    · exact pure_call a124_4_3_1 rfl rfl H
    · exact pure_call a124_4_3_2 rfl rfl H
    · omega
/-- where the pairs go when two nodes are exchanged -/
def xpl (m x y : Nat) : List Nat := match m, x, y with
  | 2, 1, 0 => [0]
  | 3, 1, 0 => [0, 2, 1]
  | 3, 2, 0 => [2, 1, 0]
  | 3, 2, 1 => [1, 0, 2]
  | 4, 1, 0 => [0, 3, 4, 1, 2, 5]
  | 4, 2, 0 => [3, 1, 5, 0, 4, 2]
  | 4, 2, 1 => [1, 0, 2, 3, 5, 4]
  | 4, 3, 0 => [4, 5, 2, 3, 0, 1]
  | 4, 3, 1 => [2, 1, 0, 5, 4, 3]
  | 4, 3, 2 => [0, 2, 1, 4, 3, 5]
  | _, _, _ => []
/-- the graph after an exchange of two nodes -/
def exg (m x y g : Nat) : Nat := mv (xpl m x y) g
abbrev n2 (m x y : Nat) : Prop := (2 ≤ m ∧ m ≤ 4) ∧ x < m ∧ y < x
def ot (i x y : Nat) : Nat := if i = x then y else if i = y then x else i
def xB : Bool := (List.range 5).all fun m => (List.range 4).all fun x => (List.range 4).all fun y => !decide (2 ≤ m ∧ x < m ∧ y < x) || (decide ((xpl m x y).length = st m m ∧ st m m ≤ 6) && (List.range 4).all fun i => (List.range 4).all fun j => !decide (i < j ∧ j < m) || decide ((xpl m x y).getD (nbr m i j) 0 = nbr m (ot i x y) (ot j x y)))
theorem xB_t : xB = true := by decide +kernel
theorem xpl_lt : ∀ m, m < 5 → ∀ x, x < 4 → ∀ y, y < 4 → ∀ e, e < 6 → (xpl m x y).getD e 0 < 6 := by decide
theorem xpl_tab {m x y : Nat} (h : n2 m x y) : (xpl m x y).length = st m m ∧ st m m ≤ 6 ∧ (∀ e, e < 6 → (xpl m x y).getD e 0 < 6) ∧ ∀ i j, i < j → j < m → (xpl m x y).getD (nbr m i j) 0 = nbr m (ot i x y) (ot j x y) := by
  obtain ⟨⟨g1, g2⟩, g3, g4⟩ := h
  have q := xB_t
  simp only [xB, List.all_eq_true, List.mem_range, Bool.or_eq_true, Bool.not_eq_true', decide_eq_false_iff_not, Bool.and_eq_true, decide_eq_true_eq] at q
  rcases q m (by omega) x (by omega) y (by omega) with q | ⟨q1, q2⟩
  · exact absurd ⟨g1, g3, g4⟩ q
  · refine ⟨q1.1, q1.2, xpl_lt m (by omega) x (by omega) y (by omega), fun i j p1 p2 => ?_⟩
    rcases q2 i (by omega) j (by omega) with p | p
    · exact absurd ⟨p1, p2⟩ p
    · exact p
theorem nbr_tab : ∀ m, m < 5 → ∀ i, i < 4 → ∀ t, t < 4 → i + 1 + t < m → nbr m i (i + 1 + t) = st m i + t ∧ st m i + t < st m m := by decide
theorem st_tab : ∀ m, m < 5 → ∀ i, i < 4 → i < m → st m i + (m - i - 1) = st m (i + 1) := by decide
theorem xpl_ok {m x y : Nat} (h : n2 m x y) : okB (xpl m x y) := by
  obtain ⟨h1, h2, h3, _⟩ := xpl_tab h
  exact ⟨by omega, fun i hi => h3 i (by omega)⟩
abbrev v98b (m g x y i t : Nat) : List AV := [I m, I g, I x, I y, I (mvJ (xpl m x y) g (st m i + t) : Nat), I i, I (i + 1 + t : Nat), I m, I i]
abbrev o98b (m g x y i : Nat) : List Out := [.mk Unit (.exit 2) [0, 1, 2, 3, 9, 14, 15] (fun _ => True) (fun _ => [I m, I g, I x, I y, I (mvJ (xpl m x y) g (st m (i + 1)) : Nat), I m, I i]) (fun _ => .nil) (fun _ => [])]
theorem simp98b : allSimpleM none1 (loopAt Tryd.f98 1) = true := by kernel_rfl
theorem simp98 : allSimpleM none1 (loopAt Tryd.f98 0) = true := by kernel_rfl
theorem rest98 : Rests (En6 [c124.to]) none1 := rests mixed (.pure _ .nil)
theorem lp98b (m g x y i : Nat) (h : n2 m x y) (hg : g < 64) (hi : i < m) :
    LoopS (En6 [c124.to]) (loopAt Tryd.f98 1) 63 [0, 1, 2, 3, 9, 10, 11, 14, 15] (v98b m g x y i 0) .nil (o98b m g x y i) := by
  refine loop_s rest98 simp98b none (by intro _ h; cases h) (fun t vs h => h = .nil ∧ vs = v98b m g x y i t ∧ i + 1 + t ≤ m) (m - i - 1) ⟨rfl, rfl, by omega⟩ (by intro _ h; cases h) ?_
  rintro t vs h' hj ⟨rfl, rfl, hI⟩
  have hB := xpl_ok h
  obtain ⟨hx1, hx2, hx3, hx4⟩ := xpl_tab h
  obtain ⟨⟨g1, g2⟩, g3, g4⟩ := id h
  by_cases hz : i + 1 + t < m
  · obtain ⟨j, hjj⟩ : ∃ j, j = i + 1 + t := ⟨_, rfl⟩
    obtain ⟨hn1, hn2⟩ := nbr_tab m (by omega) i (by omega) t (by omega) hz
    have hpl := hx4 i j (by omega) (by omega)
    rw [← hjj] at hn1
    have hle := mvJ_lt hB g (st m i + t) (by omega)
    have htb := tb_lt hB g (i := nbr m i j) (by omega)
    have p1 : (2 ≤ m ∧ m ≤ 4) ∧ i < m ∧ j < m ∧ i ≠ j := ⟨⟨g1, g2⟩, by omega, by omega, by omega⟩
    have hnew : mvJ (xpl m x y) g (st m i + (t + 1)) = mvJ (xpl m x y) g (st m i + t) ||| (g.testBit (nbr m i j)).toNat * 2 ^ nbr m (ot i x y) (ot j x y) := by rw [← hpl, hn1]; rfl
    have hjn : j + 1 = i + 1 + (t + 1) := by omega
    rw [hpl] at htb
    have hz' : (j : Int) < m := by omega
    have hlt6 := hB.2 (nbr m i j) (by omega)
    rw [hpl] at hlt6
    have hn6 : nbr m i j < 6 := by omega
    have ev0 : ((g : Nat) : Int).fdiv (2 ^ min ((nbr m i j : Nat) : Int).toNat IntKind.i64.bits) = ((g >>> nbr m i j : Nat) : Int) := i_shr (by omega)
    have ev1 := i_bit (a := g) (n := nbr m i j) (by omega)
    have ev4 : IntKind.i64.wrap ((j : Int) + 1) = ((j + 1 : Nat) : Int) := by rw [wr _ (by omega) (by omega)]; omega
    rw [show v98b m g x y i t = [I m, I g, I x, I y, I (mvJ (xpl m x y) g (st m i + t) : Nat), I i, I j, I m, I i] by rw [hjj]]
    clear hx1 hx3 hx4 hpl hB hn1 hI hj
    by_cases hix : i = x
    · have hjx : ¬ j = x := by omega
      have hjy : ¬ j = y := by omega
      have hoi : ot i x y = y := by simp only [ot]; repeat (first | rw [if_pos (by omega)] | rw [if_neg (by omega)])
      have hoj : ot j x y = j := by simp only [ot]; repeat (first | rw [if_pos (by omega)] | rw [if_neg (by omega)])
      rw [hoi, hoj] at hnew htb hlt6
      have p2 : (2 ≤ m ∧ m ≤ 4) ∧ y < m ∧ j < m ∧ y ≠ j := ⟨⟨g1, g2⟩, by omega, by omega, by omega⟩
      have ev2 : IntKind.i64.wrap (((g.testBit (nbr m i j)).toNat : Int) * 2 ^ min ((nbr m y j : Nat) : Int).toNat IntKind.i64.bits) = (((g.testBit (nbr m i j)).toNat * 2 ^ nbr m y j : Nat) : Int) := i_shl (by omega) (by omega)
      have ev3 := i_or (a := mvJ (xpl m x y) g (st m i + t)) (b := (g.testBit (nbr m i j)).toNat * 2 ^ nbr m y j) (by omega) (by omega)
      have hi0 : (i : Int) = x := by omega
      have hi1 : (j : Int) ≠ x := by omega
      have hi2 : (j : Int) ≠ y := by omega
      clear hoi hoj
      refine ⟨[Ans.o (Orc.b true), Ans.o (Orc.b true), Ans.o (Orc.b false), Ans.o (Orc.b false), Ans.o (Orc.val 52 (I (↑(nbr m i j) : Int)) (H.mk [] [] [])), Ans.o (Orc.val 53 (I (↑(g >>> nbr m i j) : Int)) H.nil), Ans.o (Orc.val 54 (I (↑(g.testBit (nbr m i j)).toNat : Int)) H.nil), Ans.o (Orc.val 58 (I (↑(nbr m y j) : Int)) (H.mk [] [] [])), Ans.o (Orc.val 59 (I (↑((g.testBit (nbr m i j)).toNat * (2 : Nat) ^ nbr m y j) : Int)) H.nil), Ans.o (Orc.val 60 (I (↑(mvJ (xpl m x y) g (st m i + t) ||| (g.testBit (nbr m i j)).toNat * (2 : Nat) ^ nbr m y j) : Int)) H.nil), Ans.o (Orc.val 24 (I (↑(j + (1 : Nat)) : Int)) H.nil)], fun u => of_eq ((↑j : Int) < (↑m : Int) ∧ (↑i : Int) = (↑x : Int) ∧ (↑j : Int) ≠ (↑x : Int) ∧ (↑j : Int) ≠ (↑y : Int) ∧ aCall (Sof [c124.to]) (AV.fn (Fn.func (124 : Nat)) [] []) [I (↑m : Int), I (↑i : Int), I (↑j : Int)] (H.mk [] [] []) = some (I (↑(nbr m i j) : Int), H.mk [] [] []) ∧ aBin Tryd.prog BinOp.shr (3 : Nat) (I (↑g : Int)) (I (↑(nbr m i j) : Int)) = some (I (↑(g >>> nbr m i j) : Int)) ∧ aBin Tryd.prog BinOp.and (3 : Nat) (I (↑(g >>> nbr m i j) : Int)) (I 1) = some (I (↑(g.testBit (nbr m i j)).toNat : Int)) ∧ aCall (Sof [c124.to]) (AV.fn (Fn.func (124 : Nat)) [] []) [I (↑m : Int), I (↑y : Int), I (↑j : Int)] (H.mk [] [] []) = some (I (↑(nbr m y j) : Int), H.mk [] [] []) ∧ aBin Tryd.prog BinOp.shl (3 : Nat) (I (↑(g.testBit (nbr m i j)).toNat : Int)) (I (↑(nbr m y j) : Int)) = some (I (↑((g.testBit (nbr m i j)).toNat * (2 : Nat) ^ nbr m y j) : Int)) ∧ aBin Tryd.prog BinOp.or (3 : Nat) (I (↑(mvJ (xpl m x y) g (st m i + t)) : Int)) (I (↑((g.testBit (nbr m i j)).toNat * (2 : Nat) ^ nbr m y j) : Int)) = some (I (↑(mvJ (xpl m x y) g (st m i + t) ||| (g.testBit (nbr m i j)).toNat * (2 : Nat) ^ nbr m y j) : Int)) ∧ aBin Tryd.prog BinOp.add (3 : Nat) (I (↑j : Int)) (I 1) = some (I (↑(j + (1 : Nat)) : Int)) ∧ (63 : Nat) = (63 : Nat) ∧ t < m - i - (1 : Nat) ∧ Keep (H.mk [] [] [] = H.mk [] [] [] ∧ [I (↑m : Int), I (↑g : Int), I (↑x : Int), I (↑y : Int), I (↑(mvJ (xpl m x y) g (st m i + t) ||| (g.testBit (nbr m i j)).toNat * (2 : Nat) ^ nbr m y j) : Int), I (↑i : Int), I (↑(j + (1 : Nat)) : Int), I (↑m : Int), I (↑i : Int)] = [I (↑m : Int), I (↑g : Int), I (↑x : Int), I (↑y : Int), I (↑(mvJ (xpl m x y) g (st m i + (t + (1 : Nat)))) : Int), I (↑i : Int), I (↑(i + (1 : Nat) + (t + (1 : Nat))) : Int), I (↑m : Int), I (↑i : Int)] ∧ i + (1 : Nat) + (t + (1 : Nat)) ≤ m)) (by kernel_rfl) ?_⟩
      refine ⟨by first | with_reducible assumption | omega | assumption, ?_⟩
      refine ⟨by first | with_reducible assumption | omega | assumption, ?_⟩
      refine ⟨by first | with_reducible assumption | omega | assumption, ?_⟩
      refine ⟨by first | with_reducible assumption | omega | assumption, ?_⟩
      refine ⟨by first | exact acall_hit (c := c124.to) (m, i, j) _ rfl p1 | exact acall_hit (c := c124.to) (m, y, j) _ rfl p2, ?_⟩
      refine ⟨by first | exact told_shr (by first | exact Int.natCast_nonneg _ | omega) (by with_reducible assumption) | exact told_shr (by omega) rfl, ?_⟩
      refine ⟨told_and (by with_reducible assumption), ?_⟩
      refine ⟨by first | exact acall_hit (c := c124.to) (m, i, j) _ rfl p1 | exact acall_hit (c := c124.to) (m, y, j) _ rfl p2, ?_⟩
      refine ⟨by first | exact told_shl (by first | exact Int.natCast_nonneg _ | omega) (by with_reducible assumption) | exact told_shl (by omega) rfl, ?_⟩
      refine ⟨told_or (by with_reducible assumption), ?_⟩
      refine ⟨told_add (by with_reducible assumption), ?_⟩
      refine ⟨by first | with_reducible assumption | omega | assumption, ?_⟩
      refine ⟨by first | with_reducible assumption | omega | assumption, ?_⟩
      exact ⟨rfl, by rw [hnew, ← hjn], by omega⟩
    · by_cases hiy : i = y
      · by_cases hjx : j = x
        · have hoi : ot i x y = x := by simp only [ot]; repeat (first | rw [if_pos (by omega)] | rw [if_neg (by omega)])
          have hoj : ot j x y = y := by simp only [ot]; repeat (first | rw [if_pos (by omega)] | rw [if_neg (by omega)])
          rw [hoi, hoj] at hnew htb hlt6
          have p2 : (2 ≤ m ∧ m ≤ 4) ∧ x < m ∧ y < m ∧ x ≠ y := ⟨⟨g1, g2⟩, by omega, by omega, by omega⟩
          have ev2 : IntKind.i64.wrap (((g.testBit (nbr m i j)).toNat : Int) * 2 ^ min ((nbr m x y : Nat) : Int).toNat IntKind.i64.bits) = (((g.testBit (nbr m i j)).toNat * 2 ^ nbr m x y : Nat) : Int) := i_shl (by omega) (by omega)
          have ev3 := i_or (a := mvJ (xpl m x y) g (st m i + t)) (b := (g.testBit (nbr m i j)).toNat * 2 ^ nbr m x y) (by omega) (by omega)
          have hi0 : (i : Int) ≠ x := by omega
          have hi1 : (i : Int) = y := by omega
          have hi2 : (j : Int) = x := by omega
          clear hoi hoj
          refine ⟨[Ans.o (Orc.b true), Ans.o (Orc.b false), Ans.o (Orc.b true), Ans.o (Orc.b true), Ans.o (Orc.val 52 (I (↑(nbr m i j) : Int)) (H.mk [] [] [])), Ans.o (Orc.val 53 (I (↑(g >>> nbr m i j) : Int)) H.nil), Ans.o (Orc.val 54 (I (↑(g.testBit (nbr m i j)).toNat : Int)) H.nil), Ans.o (Orc.val 58 (I (↑(nbr m x y) : Int)) (H.mk [] [] [])), Ans.o (Orc.val 59 (I (↑((g.testBit (nbr m i j)).toNat * (2 : Nat) ^ nbr m x y) : Int)) H.nil), Ans.o (Orc.val 60 (I (↑(mvJ (xpl m x y) g (st m i + t) ||| (g.testBit (nbr m i j)).toNat * (2 : Nat) ^ nbr m x y) : Int)) H.nil), Ans.o (Orc.val 24 (I (↑(j + (1 : Nat)) : Int)) H.nil)], fun u => of_eq ((↑j : Int) < (↑m : Int) ∧ (↑i : Int) ≠ (↑x : Int) ∧ (↑i : Int) = (↑y : Int) ∧ (↑j : Int) = (↑x : Int) ∧ aCall (Sof [c124.to]) (AV.fn (Fn.func (124 : Nat)) [] []) [I (↑m : Int), I (↑i : Int), I (↑j : Int)] (H.mk [] [] []) = some (I (↑(nbr m i j) : Int), H.mk [] [] []) ∧ aBin Tryd.prog BinOp.shr (3 : Nat) (I (↑g : Int)) (I (↑(nbr m i j) : Int)) = some (I (↑(g >>> nbr m i j) : Int)) ∧ aBin Tryd.prog BinOp.and (3 : Nat) (I (↑(g >>> nbr m i j) : Int)) (I 1) = some (I (↑(g.testBit (nbr m i j)).toNat : Int)) ∧ aCall (Sof [c124.to]) (AV.fn (Fn.func (124 : Nat)) [] []) [I (↑m : Int), I (↑x : Int), I (↑y : Int)] (H.mk [] [] []) = some (I (↑(nbr m x y) : Int), H.mk [] [] []) ∧ aBin Tryd.prog BinOp.shl (3 : Nat) (I (↑(g.testBit (nbr m i j)).toNat : Int)) (I (↑(nbr m x y) : Int)) = some (I (↑((g.testBit (nbr m i j)).toNat * (2 : Nat) ^ nbr m x y) : Int)) ∧ aBin Tryd.prog BinOp.or (3 : Nat) (I (↑(mvJ (xpl m x y) g (st m i + t)) : Int)) (I (↑((g.testBit (nbr m i j)).toNat * (2 : Nat) ^ nbr m x y) : Int)) = some (I (↑(mvJ (xpl m x y) g (st m i + t) ||| (g.testBit (nbr m i j)).toNat * (2 : Nat) ^ nbr m x y) : Int)) ∧ aBin Tryd.prog BinOp.add (3 : Nat) (I (↑j : Int)) (I 1) = some (I (↑(j + (1 : Nat)) : Int)) ∧ (63 : Nat) = (63 : Nat) ∧ t < m - i - (1 : Nat) ∧ Keep (H.mk [] [] [] = H.mk [] [] [] ∧ [I (↑m : Int), I (↑g : Int), I (↑x : Int), I (↑y : Int), I (↑(mvJ (xpl m x y) g (st m i + t) ||| (g.testBit (nbr m i j)).toNat * (2 : Nat) ^ nbr m x y) : Int), I (↑i : Int), I (↑(j + (1 : Nat)) : Int), I (↑m : Int), I (↑i : Int)] = [I (↑m : Int), I (↑g : Int), I (↑x : Int), I (↑y : Int), I (↑(mvJ (xpl m x y) g (st m i + (t + (1 : Nat)))) : Int), I (↑i : Int), I (↑(i + (1 : Nat) + (t + (1 : Nat))) : Int), I (↑m : Int), I (↑i : Int)] ∧ i + (1 : Nat) + (t + (1 : Nat)) ≤ m)) (by kernel_rfl) ?_⟩
          refine ⟨by first | with_reducible assumption | omega | assumption, ?_⟩
          refine ⟨by first | with_reducible assumption | omega | assumption, ?_⟩
          refine ⟨by first | with_reducible assumption | omega | assumption, ?_⟩
          refine ⟨by first | with_reducible assumption | omega | assumption, ?_⟩
          refine ⟨by first | exact acall_hit (c := c124.to) (m, i, j) _ rfl p1 | exact acall_hit (c := c124.to) (m, x, y) _ rfl p2, ?_⟩
          refine ⟨by first | exact told_shr (by first | exact Int.natCast_nonneg _ | omega) (by with_reducible assumption) | exact told_shr (by omega) rfl, ?_⟩
          refine ⟨told_and (by with_reducible assumption), ?_⟩
          refine ⟨by first | exact acall_hit (c := c124.to) (m, i, j) _ rfl p1 | exact acall_hit (c := c124.to) (m, x, y) _ rfl p2, ?_⟩
          refine ⟨by first | exact told_shl (by first | exact Int.natCast_nonneg _ | omega) (by with_reducible assumption) | exact told_shl (by omega) rfl, ?_⟩
          refine ⟨told_or (by with_reducible assumption), ?_⟩
          refine ⟨told_add (by with_reducible assumption), ?_⟩
          refine ⟨by first | with_reducible assumption | omega | assumption, ?_⟩
          refine ⟨by first | with_reducible assumption | omega | assumption, ?_⟩
          exact ⟨rfl, by rw [hnew, ← hjn], by omega⟩
        · have hjy : ¬ j = y := by omega
          have hoi : ot i x y = x := by simp only [ot]; repeat (first | rw [if_pos (by omega)] | rw [if_neg (by omega)])
          have hoj : ot j x y = j := by simp only [ot]; repeat (first | rw [if_pos (by omega)] | rw [if_neg (by omega)])
          rw [hoi, hoj] at hnew htb hlt6
          have p2 : (2 ≤ m ∧ m ≤ 4) ∧ x < m ∧ j < m ∧ x ≠ j := ⟨⟨g1, g2⟩, by omega, by omega, by omega⟩
          have ev2 : IntKind.i64.wrap (((g.testBit (nbr m i j)).toNat : Int) * 2 ^ min ((nbr m x j : Nat) : Int).toNat IntKind.i64.bits) = (((g.testBit (nbr m i j)).toNat * 2 ^ nbr m x j : Nat) : Int) := i_shl (by omega) (by omega)
          have ev3 := i_or (a := mvJ (xpl m x y) g (st m i + t)) (b := (g.testBit (nbr m i j)).toNat * 2 ^ nbr m x j) (by omega) (by omega)
          have hi0 : (i : Int) ≠ x := by omega
          have hi1 : (i : Int) = y := by omega
          have hi2 : (j : Int) ≠ x := by omega
          have hi3 : (j : Int) ≠ y := by omega
          clear hoi hoj
          refine ⟨[Ans.o (Orc.b true), Ans.o (Orc.b false), Ans.o (Orc.b true), Ans.o (Orc.b false), Ans.o (Orc.b false), Ans.o (Orc.val 52 (I (↑(nbr m i j) : Int)) (H.mk [] [] [])), Ans.o (Orc.val 53 (I (↑(g >>> nbr m i j) : Int)) H.nil), Ans.o (Orc.val 54 (I (↑(g.testBit (nbr m i j)).toNat : Int)) H.nil), Ans.o (Orc.val 58 (I (↑(nbr m x j) : Int)) (H.mk [] [] [])), Ans.o (Orc.val 59 (I (↑((g.testBit (nbr m i j)).toNat * (2 : Nat) ^ nbr m x j) : Int)) H.nil), Ans.o (Orc.val 60 (I (↑(mvJ (xpl m x y) g (st m i + t) ||| (g.testBit (nbr m i j)).toNat * (2 : Nat) ^ nbr m x j) : Int)) H.nil), Ans.o (Orc.val 24 (I (↑(j + (1 : Nat)) : Int)) H.nil)], fun u => of_eq ((↑j : Int) < (↑m : Int) ∧ (↑i : Int) ≠ (↑x : Int) ∧ (↑i : Int) = (↑y : Int) ∧ (↑j : Int) ≠ (↑x : Int) ∧ (↑j : Int) ≠ (↑y : Int) ∧ aCall (Sof [c124.to]) (AV.fn (Fn.func (124 : Nat)) [] []) [I (↑m : Int), I (↑i : Int), I (↑j : Int)] (H.mk [] [] []) = some (I (↑(nbr m i j) : Int), H.mk [] [] []) ∧ aBin Tryd.prog BinOp.shr (3 : Nat) (I (↑g : Int)) (I (↑(nbr m i j) : Int)) = some (I (↑(g >>> nbr m i j) : Int)) ∧ aBin Tryd.prog BinOp.and (3 : Nat) (I (↑(g >>> nbr m i j) : Int)) (I 1) = some (I (↑(g.testBit (nbr m i j)).toNat : Int)) ∧ aCall (Sof [c124.to]) (AV.fn (Fn.func (124 : Nat)) [] []) [I (↑m : Int), I (↑x : Int), I (↑j : Int)] (H.mk [] [] []) = some (I (↑(nbr m x j) : Int), H.mk [] [] []) ∧ aBin Tryd.prog BinOp.shl (3 : Nat) (I (↑(g.testBit (nbr m i j)).toNat : Int)) (I (↑(nbr m x j) : Int)) = some (I (↑((g.testBit (nbr m i j)).toNat * (2 : Nat) ^ nbr m x j) : Int)) ∧ aBin Tryd.prog BinOp.or (3 : Nat) (I (↑(mvJ (xpl m x y) g (st m i + t)) : Int)) (I (↑((g.testBit (nbr m i j)).toNat * (2 : Nat) ^ nbr m x j) : Int)) = some (I (↑(mvJ (xpl m x y) g (st m i + t) ||| (g.testBit (nbr m i j)).toNat * (2 : Nat) ^ nbr m x j) : Int)) ∧ aBin Tryd.prog BinOp.add (3 : Nat) (I (↑j : Int)) (I 1) = some (I (↑(j + (1 : Nat)) : Int)) ∧ (63 : Nat) = (63 : Nat) ∧ t < m - i - (1 : Nat) ∧ Keep (H.mk [] [] [] = H.mk [] [] [] ∧ [I (↑m : Int), I (↑g : Int), I (↑x : Int), I (↑y : Int), I (↑(mvJ (xpl m x y) g (st m i + t) ||| (g.testBit (nbr m i j)).toNat * (2 : Nat) ^ nbr m x j) : Int), I (↑i : Int), I (↑(j + (1 : Nat)) : Int), I (↑m : Int), I (↑i : Int)] = [I (↑m : Int), I (↑g : Int), I (↑x : Int), I (↑y : Int), I (↑(mvJ (xpl m x y) g (st m i + (t + (1 : Nat)))) : Int), I (↑i : Int), I (↑(i + (1 : Nat) + (t + (1 : Nat))) : Int), I (↑m : Int), I (↑i : Int)] ∧ i + (1 : Nat) + (t + (1 : Nat)) ≤ m)) (by kernel_rfl) ?_⟩
          refine ⟨by first | with_reducible assumption | omega | assumption, ?_⟩
          refine ⟨by first | with_reducible assumption | omega | assumption, ?_⟩
          refine ⟨by first | with_reducible assumption | omega | assumption, ?_⟩
          refine ⟨by first | with_reducible assumption | omega | assumption, ?_⟩
          refine ⟨by first | with_reducible assumption | omega | assumption, ?_⟩
          refine ⟨by first | exact acall_hit (c := c124.to) (m, i, j) _ rfl p1 | exact acall_hit (c := c124.to) (m, x, j) _ rfl p2, ?_⟩
          refine ⟨by first | exact told_shr (by first | exact Int.natCast_nonneg _ | omega) (by with_reducible assumption) | exact told_shr (by omega) rfl, ?_⟩
          refine ⟨told_and (by with_reducible assumption), ?_⟩
          refine ⟨by first | exact acall_hit (c := c124.to) (m, i, j) _ rfl p1 | exact acall_hit (c := c124.to) (m, x, j) _ rfl p2, ?_⟩
          refine ⟨by first | exact told_shl (by first | exact Int.natCast_nonneg _ | omega) (by with_reducible assumption) | exact told_shl (by omega) rfl, ?_⟩
          refine ⟨told_or (by with_reducible assumption), ?_⟩
          refine ⟨told_add (by with_reducible assumption), ?_⟩
          refine ⟨by first | with_reducible assumption | omega | assumption, ?_⟩
          refine ⟨by first | with_reducible assumption | omega | assumption, ?_⟩
          exact ⟨rfl, by rw [hnew, ← hjn], by omega⟩
      · by_cases hjx : j = x
        · have hoi : ot i x y = i := by simp only [ot]; repeat (first | rw [if_pos (by omega)] | rw [if_neg (by omega)])
          have hoj : ot j x y = y := by simp only [ot]; repeat (first | rw [if_pos (by omega)] | rw [if_neg (by omega)])
          rw [hoi, hoj] at hnew htb hlt6
          have p2 : (2 ≤ m ∧ m ≤ 4) ∧ i < m ∧ y < m ∧ i ≠ y := ⟨⟨g1, g2⟩, by omega, by omega, by omega⟩
          have ev2 : IntKind.i64.wrap (((g.testBit (nbr m i j)).toNat : Int) * 2 ^ min ((nbr m i y : Nat) : Int).toNat IntKind.i64.bits) = (((g.testBit (nbr m i j)).toNat * 2 ^ nbr m i y : Nat) : Int) := i_shl (by omega) (by omega)
          have ev3 := i_or (a := mvJ (xpl m x y) g (st m i + t)) (b := (g.testBit (nbr m i j)).toNat * 2 ^ nbr m i y) (by omega) (by omega)
          have hi0 : (i : Int) ≠ x := by omega
          have hi1 : (i : Int) ≠ y := by omega
          have hi2 : (j : Int) = x := by omega
          clear hoi hoj
          refine ⟨[Ans.o (Orc.b true), Ans.o (Orc.b false), Ans.o (Orc.b false), Ans.o (Orc.b true), Ans.o (Orc.val 52 (I (↑(nbr m i j) : Int)) (H.mk [] [] [])), Ans.o (Orc.val 53 (I (↑(g >>> nbr m i j) : Int)) H.nil), Ans.o (Orc.val 54 (I (↑(g.testBit (nbr m i j)).toNat : Int)) H.nil), Ans.o (Orc.val 58 (I (↑(nbr m i y) : Int)) (H.mk [] [] [])), Ans.o (Orc.val 59 (I (↑((g.testBit (nbr m i j)).toNat * (2 : Nat) ^ nbr m i y) : Int)) H.nil), Ans.o (Orc.val 60 (I (↑(mvJ (xpl m x y) g (st m i + t) ||| (g.testBit (nbr m i j)).toNat * (2 : Nat) ^ nbr m i y) : Int)) H.nil), Ans.o (Orc.val 24 (I (↑(j + (1 : Nat)) : Int)) H.nil)], fun u => of_eq ((↑j : Int) < (↑m : Int) ∧ (↑i : Int) ≠ (↑x : Int) ∧ (↑i : Int) ≠ (↑y : Int) ∧ (↑j : Int) = (↑x : Int) ∧ aCall (Sof [c124.to]) (AV.fn (Fn.func (124 : Nat)) [] []) [I (↑m : Int), I (↑i : Int), I (↑j : Int)] (H.mk [] [] []) = some (I (↑(nbr m i j) : Int), H.mk [] [] []) ∧ aBin Tryd.prog BinOp.shr (3 : Nat) (I (↑g : Int)) (I (↑(nbr m i j) : Int)) = some (I (↑(g >>> nbr m i j) : Int)) ∧ aBin Tryd.prog BinOp.and (3 : Nat) (I (↑(g >>> nbr m i j) : Int)) (I 1) = some (I (↑(g.testBit (nbr m i j)).toNat : Int)) ∧ aCall (Sof [c124.to]) (AV.fn (Fn.func (124 : Nat)) [] []) [I (↑m : Int), I (↑i : Int), I (↑y : Int)] (H.mk [] [] []) = some (I (↑(nbr m i y) : Int), H.mk [] [] []) ∧ aBin Tryd.prog BinOp.shl (3 : Nat) (I (↑(g.testBit (nbr m i j)).toNat : Int)) (I (↑(nbr m i y) : Int)) = some (I (↑((g.testBit (nbr m i j)).toNat * (2 : Nat) ^ nbr m i y) : Int)) ∧ aBin Tryd.prog BinOp.or (3 : Nat) (I (↑(mvJ (xpl m x y) g (st m i + t)) : Int)) (I (↑((g.testBit (nbr m i j)).toNat * (2 : Nat) ^ nbr m i y) : Int)) = some (I (↑(mvJ (xpl m x y) g (st m i + t) ||| (g.testBit (nbr m i j)).toNat * (2 : Nat) ^ nbr m i y) : Int)) ∧ aBin Tryd.prog BinOp.add (3 : Nat) (I (↑j : Int)) (I 1) = some (I (↑(j + (1 : Nat)) : Int)) ∧ (63 : Nat) = (63 : Nat) ∧ t < m - i - (1 : Nat) ∧ Keep (H.mk [] [] [] = H.mk [] [] [] ∧ [I (↑m : Int), I (↑g : Int), I (↑x : Int), I (↑y : Int), I (↑(mvJ (xpl m x y) g (st m i + t) ||| (g.testBit (nbr m i j)).toNat * (2 : Nat) ^ nbr m i y) : Int), I (↑i : Int), I (↑(j + (1 : Nat)) : Int), I (↑m : Int), I (↑i : Int)] = [I (↑m : Int), I (↑g : Int), I (↑x : Int), I (↑y : Int), I (↑(mvJ (xpl m x y) g (st m i + (t + (1 : Nat)))) : Int), I (↑i : Int), I (↑(i + (1 : Nat) + (t + (1 : Nat))) : Int), I (↑m : Int), I (↑i : Int)] ∧ i + (1 : Nat) + (t + (1 : Nat)) ≤ m)) (by kernel_rfl) ?_⟩
          refine ⟨by first | with_reducible assumption | omega | assumption, ?_⟩
          refine ⟨by first | with_reducible assumption | omega | assumption, ?_⟩
          refine ⟨by first | with_reducible assumption | omega | assumption, ?_⟩
          refine ⟨by first | with_reducible assumption | omega | assumption, ?_⟩
          refine ⟨by first | exact acall_hit (c := c124.to) (m, i, j) _ rfl p1 | exact acall_hit (c := c124.to) (m, i, y) _ rfl p2, ?_⟩
          refine ⟨by first | exact told_shr (by first | exact Int.natCast_nonneg _ | omega) (by with_reducible assumption) | exact told_shr (by omega) rfl, ?_⟩
          refine ⟨told_and (by with_reducible assumption), ?_⟩
          refine ⟨by first | exact acall_hit (c := c124.to) (m, i, j) _ rfl p1 | exact acall_hit (c := c124.to) (m, i, y) _ rfl p2, ?_⟩
          refine ⟨by first | exact told_shl (by first | exact Int.natCast_nonneg _ | omega) (by with_reducible assumption) | exact told_shl (by omega) rfl, ?_⟩
          refine ⟨told_or (by with_reducible assumption), ?_⟩
          refine ⟨told_add (by with_reducible assumption), ?_⟩
          refine ⟨by first | with_reducible assumption | omega | assumption, ?_⟩
          refine ⟨by first | with_reducible assumption | omega | assumption, ?_⟩
          exact ⟨rfl, by rw [hnew, ← hjn], by omega⟩
        · by_cases hjy : j = y
          · have hoi : ot i x y = i := by simp only [ot]; repeat (first | rw [if_pos (by omega)] | rw [if_neg (by omega)])
            have hoj : ot j x y = x := by simp only [ot]; repeat (first | rw [if_pos (by omega)] | rw [if_neg (by omega)])
            rw [hoi, hoj] at hnew htb hlt6
            have p2 : (2 ≤ m ∧ m ≤ 4) ∧ i < m ∧ x < m ∧ i ≠ x := ⟨⟨g1, g2⟩, by omega, by omega, by omega⟩
            have ev2 : IntKind.i64.wrap (((g.testBit (nbr m i j)).toNat : Int) * 2 ^ min ((nbr m i x : Nat) : Int).toNat IntKind.i64.bits) = (((g.testBit (nbr m i j)).toNat * 2 ^ nbr m i x : Nat) : Int) := i_shl (by omega) (by omega)
            have ev3 := i_or (a := mvJ (xpl m x y) g (st m i + t)) (b := (g.testBit (nbr m i j)).toNat * 2 ^ nbr m i x) (by omega) (by omega)
            have hi0 : (i : Int) ≠ x := by omega
            have hi1 : (i : Int) ≠ y := by omega
            have hi2 : (j : Int) ≠ x := by omega
            have hi3 : (j : Int) = y := by omega
            clear hoi hoj
            refine ⟨[Ans.o (Orc.b true), Ans.o (Orc.b false), Ans.o (Orc.b false), Ans.o (Orc.b false), Ans.o (Orc.b true), Ans.o (Orc.val 52 (I (↑(nbr m i j) : Int)) (H.mk [] [] [])), Ans.o (Orc.val 53 (I (↑(g >>> nbr m i j) : Int)) H.nil), Ans.o (Orc.val 54 (I (↑(g.testBit (nbr m i j)).toNat : Int)) H.nil), Ans.o (Orc.val 58 (I (↑(nbr m i x) : Int)) (H.mk [] [] [])), Ans.o (Orc.val 59 (I (↑((g.testBit (nbr m i j)).toNat * (2 : Nat) ^ nbr m i x) : Int)) H.nil), Ans.o (Orc.val 60 (I (↑(mvJ (xpl m x y) g (st m i + t) ||| (g.testBit (nbr m i j)).toNat * (2 : Nat) ^ nbr m i x) : Int)) H.nil), Ans.o (Orc.val 24 (I (↑(j + (1 : Nat)) : Int)) H.nil)], fun u => of_eq ((↑j : Int) < (↑m : Int) ∧ (↑i : Int) ≠ (↑x : Int) ∧ (↑i : Int) ≠ (↑y : Int) ∧ (↑j : Int) ≠ (↑x : Int) ∧ (↑j : Int) = (↑y : Int) ∧ aCall (Sof [c124.to]) (AV.fn (Fn.func (124 : Nat)) [] []) [I (↑m : Int), I (↑i : Int), I (↑j : Int)] (H.mk [] [] []) = some (I (↑(nbr m i j) : Int), H.mk [] [] []) ∧ aBin Tryd.prog BinOp.shr (3 : Nat) (I (↑g : Int)) (I (↑(nbr m i j) : Int)) = some (I (↑(g >>> nbr m i j) : Int)) ∧ aBin Tryd.prog BinOp.and (3 : Nat) (I (↑(g >>> nbr m i j) : Int)) (I 1) = some (I (↑(g.testBit (nbr m i j)).toNat : Int)) ∧ aCall (Sof [c124.to]) (AV.fn (Fn.func (124 : Nat)) [] []) [I (↑m : Int), I (↑i : Int), I (↑x : Int)] (H.mk [] [] []) = some (I (↑(nbr m i x) : Int), H.mk [] [] []) ∧ aBin Tryd.prog BinOp.shl (3 : Nat) (I (↑(g.testBit (nbr m i j)).toNat : Int)) (I (↑(nbr m i x) : Int)) = some (I (↑((g.testBit (nbr m i j)).toNat * (2 : Nat) ^ nbr m i x) : Int)) ∧ aBin Tryd.prog BinOp.or (3 : Nat) (I (↑(mvJ (xpl m x y) g (st m i + t)) : Int)) (I (↑((g.testBit (nbr m i j)).toNat * (2 : Nat) ^ nbr m i x) : Int)) = some (I (↑(mvJ (xpl m x y) g (st m i + t) ||| (g.testBit (nbr m i j)).toNat * (2 : Nat) ^ nbr m i x) : Int)) ∧ aBin Tryd.prog BinOp.add (3 : Nat) (I (↑j : Int)) (I 1) = some (I (↑(j + (1 : Nat)) : Int)) ∧ (63 : Nat) = (63 : Nat) ∧ t < m - i - (1 : Nat) ∧ Keep (H.mk [] [] [] = H.mk [] [] [] ∧ [I (↑m : Int), I (↑g : Int), I (↑x : Int), I (↑y : Int), I (↑(mvJ (xpl m x y) g (st m i + t) ||| (g.testBit (nbr m i j)).toNat * (2 : Nat) ^ nbr m i x) : Int), I (↑i : Int), I (↑(j + (1 : Nat)) : Int), I (↑m : Int), I (↑i : Int)] = [I (↑m : Int), I (↑g : Int), I (↑x : Int), I (↑y : Int), I (↑(mvJ (xpl m x y) g (st m i + (t + (1 : Nat)))) : Int), I (↑i : Int), I (↑(i + (1 : Nat) + (t + (1 : Nat))) : Int), I (↑m : Int), I (↑i : Int)] ∧ i + (1 : Nat) + (t + (1 : Nat)) ≤ m)) (by kernel_rfl) ?_⟩
            refine ⟨by first | with_reducible assumption | omega | assumption, ?_⟩
            refine ⟨by first | with_reducible assumption | omega | assumption, ?_⟩
            refine ⟨by first | with_reducible assumption | omega | assumption, ?_⟩
            refine ⟨by first | with_reducible assumption | omega | assumption, ?_⟩
            refine ⟨by first | with_reducible assumption | omega | assumption, ?_⟩
            refine ⟨by first | exact acall_hit (c := c124.to) (m, i, j) _ rfl p1 | exact acall_hit (c := c124.to) (m, i, x) _ rfl p2, ?_⟩
            refine ⟨by first | exact told_shr (by first | exact Int.natCast_nonneg _ | omega) (by with_reducible assumption) | exact told_shr (by omega) rfl, ?_⟩
            refine ⟨told_and (by with_reducible assumption), ?_⟩
            refine ⟨by first | exact acall_hit (c := c124.to) (m, i, j) _ rfl p1 | exact acall_hit (c := c124.to) (m, i, x) _ rfl p2, ?_⟩
            refine ⟨by first | exact told_shl (by first | exact Int.natCast_nonneg _ | omega) (by with_reducible assumption) | exact told_shl (by omega) rfl, ?_⟩
            refine ⟨told_or (by with_reducible assumption), ?_⟩
            refine ⟨told_add (by with_reducible assumption), ?_⟩
            refine ⟨by first | with_reducible assumption | omega | assumption, ?_⟩
            refine ⟨by first | with_reducible assumption | omega | assumption, ?_⟩
            exact ⟨rfl, by rw [hnew, ← hjn], by omega⟩
          · have hoi : ot i x y = i := by simp only [ot]; repeat (first | rw [if_pos (by omega)] | rw [if_neg (by omega)])
            have hoj : ot j x y = j := by simp only [ot]; repeat (first | rw [if_pos (by omega)] | rw [if_neg (by omega)])
            rw [hoi, hoj] at hnew htb hlt6
            have p2 : (2 ≤ m ∧ m ≤ 4) ∧ i < m ∧ j < m ∧ i ≠ j := ⟨⟨g1, g2⟩, by omega, by omega, by omega⟩
            have ev2 : IntKind.i64.wrap (((g.testBit (nbr m i j)).toNat : Int) * 2 ^ min ((nbr m i j : Nat) : Int).toNat IntKind.i64.bits) = (((g.testBit (nbr m i j)).toNat * 2 ^ nbr m i j : Nat) : Int) := i_shl (by omega) (by omega)
            have ev3 := i_or (a := mvJ (xpl m x y) g (st m i + t)) (b := (g.testBit (nbr m i j)).toNat * 2 ^ nbr m i j) (by omega) (by omega)
            have hi0 : (i : Int) ≠ x := by omega
            have hi1 : (i : Int) ≠ y := by omega
            have hi2 : (j : Int) ≠ x := by omega
            have hi3 : (j : Int) ≠ y := by omega
            clear hoi hoj
            refine ⟨[Ans.o (Orc.b true), Ans.o (Orc.b false), Ans.o (Orc.b false), Ans.o (Orc.b false), Ans.o (Orc.b false), Ans.o (Orc.val 52 (I (↑(nbr m i j) : Int)) (H.mk [] [] [])), Ans.o (Orc.val 53 (I (↑(g >>> nbr m i j) : Int)) H.nil), Ans.o (Orc.val 54 (I (↑(g.testBit (nbr m i j)).toNat : Int)) H.nil), Ans.o (Orc.val 58 (I (↑(nbr m i j) : Int)) (H.mk [] [] [])), Ans.o (Orc.val 59 (I (↑((g.testBit (nbr m i j)).toNat * (2 : Nat) ^ nbr m i j) : Int)) H.nil), Ans.o (Orc.val 60 (I (↑(mvJ (xpl m x y) g (st m i + t) ||| (g.testBit (nbr m i j)).toNat * (2 : Nat) ^ nbr m i j) : Int)) H.nil), Ans.o (Orc.val 24 (I (↑(j + (1 : Nat)) : Int)) H.nil)], fun u => of_eq ((↑j : Int) < (↑m : Int) ∧ (↑i : Int) ≠ (↑x : Int) ∧ (↑i : Int) ≠ (↑y : Int) ∧ (↑j : Int) ≠ (↑x : Int) ∧ (↑j : Int) ≠ (↑y : Int) ∧ aCall (Sof [c124.to]) (AV.fn (Fn.func (124 : Nat)) [] []) [I (↑m : Int), I (↑i : Int), I (↑j : Int)] (H.mk [] [] []) = some (I (↑(nbr m i j) : Int), H.mk [] [] []) ∧ aBin Tryd.prog BinOp.shr (3 : Nat) (I (↑g : Int)) (I (↑(nbr m i j) : Int)) = some (I (↑(g >>> nbr m i j) : Int)) ∧ aBin Tryd.prog BinOp.and (3 : Nat) (I (↑(g >>> nbr m i j) : Int)) (I 1) = some (I (↑(g.testBit (nbr m i j)).toNat : Int)) ∧ aCall (Sof [c124.to]) (AV.fn (Fn.func (124 : Nat)) [] []) [I (↑m : Int), I (↑i : Int), I (↑j : Int)] (H.mk [] [] []) = some (I (↑(nbr m i j) : Int), H.mk [] [] []) ∧ aBin Tryd.prog BinOp.shl (3 : Nat) (I (↑(g.testBit (nbr m i j)).toNat : Int)) (I (↑(nbr m i j) : Int)) = some (I (↑((g.testBit (nbr m i j)).toNat * (2 : Nat) ^ nbr m i j) : Int)) ∧ aBin Tryd.prog BinOp.or (3 : Nat) (I (↑(mvJ (xpl m x y) g (st m i + t)) : Int)) (I (↑((g.testBit (nbr m i j)).toNat * (2 : Nat) ^ nbr m i j) : Int)) = some (I (↑(mvJ (xpl m x y) g (st m i + t) ||| (g.testBit (nbr m i j)).toNat * (2 : Nat) ^ nbr m i j) : Int)) ∧ aBin Tryd.prog BinOp.add (3 : Nat) (I (↑j : Int)) (I 1) = some (I (↑(j + (1 : Nat)) : Int)) ∧ (63 : Nat) = (63 : Nat) ∧ t < m - i - (1 : Nat) ∧ Keep (H.mk [] [] [] = H.mk [] [] [] ∧ [I (↑m : Int), I (↑g : Int), I (↑x : Int), I (↑y : Int), I (↑(mvJ (xpl m x y) g (st m i + t) ||| (g.testBit (nbr m i j)).toNat * (2 : Nat) ^ nbr m i j) : Int), I (↑i : Int), I (↑(j + (1 : Nat)) : Int), I (↑m : Int), I (↑i : Int)] = [I (↑m : Int), I (↑g : Int), I (↑x : Int), I (↑y : Int), I (↑(mvJ (xpl m x y) g (st m i + (t + (1 : Nat)))) : Int), I (↑i : Int), I (↑(i + (1 : Nat) + (t + (1 : Nat))) : Int), I (↑m : Int), I (↑i : Int)] ∧ i + (1 : Nat) + (t + (1 : Nat)) ≤ m)) (by kernel_rfl) ?_⟩
            refine ⟨by first | with_reducible assumption | omega | assumption, ?_⟩
            refine ⟨by first | with_reducible assumption | omega | assumption, ?_⟩
            refine ⟨by first | with_reducible assumption | omega | assumption, ?_⟩
            refine ⟨by first | with_reducible assumption | omega | assumption, ?_⟩
            refine ⟨by first | with_reducible assumption | omega | assumption, ?_⟩
            refine ⟨by first | exact acall_hit (c := c124.to) (m, i, j) _ rfl p1 | exact acall_hit (c := c124.to) (m, i, j) _ rfl p2, ?_⟩
            refine ⟨by first | exact told_shr (by first | exact Int.natCast_nonneg _ | omega) (by with_reducible assumption) | exact told_shr (by omega) rfl, ?_⟩
            refine ⟨told_and (by with_reducible assumption), ?_⟩
            refine ⟨by first | exact acall_hit (c := c124.to) (m, i, j) _ rfl p1 | exact acall_hit (c := c124.to) (m, i, j) _ rfl p2, ?_⟩
            refine ⟨by first | exact told_shl (by first | exact Int.natCast_nonneg _ | omega) (by with_reducible assumption) | exact told_shl (by omega) rfl, ?_⟩
            refine ⟨told_or (by with_reducible assumption), ?_⟩
            refine ⟨told_add (by with_reducible assumption), ?_⟩
            refine ⟨by first | with_reducible assumption | omega | assumption, ?_⟩
            refine ⟨by first | with_reducible assumption | omega | assumption, ?_⟩
            exact ⟨rfl, by rw [hnew, ← hjn], by omega⟩
  · have hz' : (m : Int) ≤ (i + 1 + t : Nat) := by omega
    have ht : t = m - i - 1 := by omega
    have hs' := st_tab m (by omega) i (by omega) (by omega)
    rw [← ht] at hs'
    refine ⟨[Ans.o (Orc.b false)], fun u => of_eq ((↑m : Int) ≤ (↑(i + (1 : Nat) + t) : Int) ∧ (63 : Nat) = (63 : Nat) ∧ hits [Out.mk Unit (AX.exit (2 : Nat)) [(0 : Nat), (1 : Nat), (2 : Nat), (3 : Nat), (9 : Nat), (14 : Nat), (15 : Nat)] (fun x => True) (fun x_1 => [I (↑m : Int), I (↑g : Int), I (↑x : Int), I (↑y : Int), I (↑(mvJ (xpl m x y) g (st m (i + (1 : Nat)))) : Int), I (↑m : Int), I (↑i : Int)]) (fun x => H.nil) fun x => []] (AX.exit (2 : Nat)) [I (↑m : Int), I (↑g : Int), I (↑x : Int), I (↑y : Int), u (4 : Nat), u (5 : Nat), u (6 : Nat), u (7 : Nat), u (8 : Nat), I (↑(mvJ (xpl m x y) g (st m i + t)) : Int), I (↑i : Int), I (↑(i + (1 : Nat) + t) : Int), u (12 : Nat), u (13 : Nat), I (↑m : Int), I (↑i : Int), u (16 : Nat), u (17 : Nat), u (18 : Nat), u (19 : Nat), I (↑(i + (1 : Nat) + t) : Int), I (↑m : Int), AV.bool false, u (23 : Nat), u (24 : Nat), u (25 : Nat), u (26 : Nat), u (27 : Nat), u (28 : Nat), u (29 : Nat), u (30 : Nat), u (31 : Nat), u (32 : Nat), u (33 : Nat), u (34 : Nat), u (35 : Nat), u (36 : Nat), u (37 : Nat), u (38 : Nat), u (39 : Nat), u (40 : Nat), u (41 : Nat), u (42 : Nat), u (43 : Nat), u (44 : Nat), u (45 : Nat), u (46 : Nat), u (47 : Nat), u (48 : Nat), u (49 : Nat), u (50 : Nat), u (51 : Nat), u (52 : Nat), u (53 : Nat), u (54 : Nat), u (55 : Nat), u (56 : Nat), u (57 : Nat), u (58 : Nat), u (59 : Nat), u (60 : Nat), u (61 : Nat), u (62 : Nat)] (H.mk [] [] [])) (by kernel_rfl) ?_⟩
    refine ⟨by first | with_reducible assumption | omega | assumption, ?_⟩
    refine ⟨by first | with_reducible assumption | omega | assumption, ?_⟩
    exact .inl ⟨(), trivial, rfl, by rw [← hs']; rfl, rfl⟩
abbrev o98 (m g x y : Nat) : List Out := [.mk Unit (.exit 0) [9] (fun _ => True) (fun _ => [I (exg m x y g : Nat)]) (fun _ => .nil) (fun _ => [])]
theorem lp98 (m g x y : Nat) (h : n2 m x y) (hg : g < 64) :
    LoopS (En6 [c124.to]) (loopAt Tryd.f98 0) 63 [0, 1, 2, 3, 9, 14, 15] [I m, I g, I x, I y, I 0, I m, I 0] .nil (o98 m g x y) := by
  have h0 : mvJ (xpl m x y) g (st m 0) = 0 := by rw [show st m 0 = 0 by simp [st]]; rfl
  refine loop_s rest98 simp98 none (by intro _ h; cases h) (fun i vs h => h = .nil ∧ vs = [I m, I g, I x, I y, I (mvJ (xpl m x y) g (st m i) : Nat), I m, I i] ∧ i ≤ m) m ⟨rfl, by rw [h0]; rfl, by omega⟩ (by intro _ h; cases h) ?_
  rintro i vs h' hj ⟨rfl, rfl, hI⟩
  obtain ⟨⟨g1, g2⟩, g3, g4⟩ := id h
  by_cases hz : i < m
  · have hin := lp98b m g x y i h hg hz
    have ev0 : IntKind.i64.wrap ((i : Int) + 1) = ((i + 1 : Nat) : Int) := by rw [wr _ (by omega) (by omega)]; omega
    have hz' : (i : Int) < m := by omega
    refine ⟨[Ans.o (Orc.b true), Ans.o (Orc.val 19 (I (↑(i + (1 : Nat)) : Int)) H.nil), Ans.loop [(0 : Nat), (1 : Nat), (2 : Nat), (3 : Nat), (9 : Nat), (10 : Nat), (11 : Nat), (14 : Nat), (15 : Nat)] [Out.mk Unit (AX.exit (2 : Nat)) [(0 : Nat), (1 : Nat), (2 : Nat), (3 : Nat), (9 : Nat), (14 : Nat), (15 : Nat)] (fun x => True) (fun x_1 => [I (↑m : Int), I (↑g : Int), I (↑x : Int), I (↑y : Int), I (↑(mvJ (xpl m x y) g (st m (i + (1 : Nat)))) : Int), I (↑m : Int), I (↑i : Int)]) (fun x => H.nil) fun y => [Ans.o (Orc.val 61 (I (↑(i + (1 : Nat)) : Int)) H.nil)]]], fun u => of_eq ((↑i : Int) < (↑m : Int) ∧ aBin Tryd.prog BinOp.add (3 : Nat) (I (↑i : Int)) (I 1) = some (I (↑(i + (1 : Nat)) : Int)) ∧ LoopS (Env.mk Tryd.prog (Sof [c124.to]) (Pof (P := Tryd.prog) []) H.nil.base (300 : Nat)) (loopAt Tryd.f98 (1 : Nat)) (63 : Nat) [(0 : Nat), (1 : Nat), (2 : Nat), (3 : Nat), (9 : Nat), (10 : Nat), (11 : Nat), (14 : Nat), (15 : Nat)] [I (↑m : Int), I (↑g : Int), I (↑x : Int), I (↑y : Int), I (↑(mvJ (xpl m x y) g (st m i)) : Int), I (↑i : Int), I (↑(i + (1 : Nat)) : Int), I (↑m : Int), I (↑i : Int)] (H.mk [] [] []) [Out.mk Unit (AX.exit (2 : Nat)) [(0 : Nat), (1 : Nat), (2 : Nat), (3 : Nat), (9 : Nat), (14 : Nat), (15 : Nat)] (fun x => True) (fun x_1 => [I (↑m : Int), I (↑g : Int), I (↑x : Int), I (↑y : Int), I (↑(mvJ (xpl m x y) g (st m (i + (1 : Nat)))) : Int), I (↑m : Int), I (↑i : Int)]) (fun x => H.nil) fun y => [Ans.o (Orc.val 61 (I (↑(i + (1 : Nat)) : Int)) H.nil)]] ∧ (∀ (y_1 : Unit), True → ∀ (u : Nat → AV), aBin Tryd.prog BinOp.add (3 : Nat) (I (↑i : Int)) (I 1) = some (I (↑(i + (1 : Nat)) : Int)) ∧ (63 : Nat) = (63 : Nat) ∧ i < m ∧ Keep (H.mk [] [] [] = H.mk [] [] [] ∧ [I (↑m : Int), I (↑g : Int), I (↑x : Int), I (↑y : Int), I (↑(mvJ (xpl m x y) g (st m (i + (1 : Nat)))) : Int), I (↑m : Int), I (↑(i + (1 : Nat)) : Int)] = [I (↑m : Int), I (↑g : Int), I (↑x : Int), I (↑y : Int), I (↑(mvJ (xpl m x y) g (st m (i + (1 : Nat)))) : Int), I (↑m : Int), I (↑(i + (1 : Nat)) : Int)] ∧ i + (1 : Nat) ≤ m)) ∧ True) (by kernel_rfl) ?_⟩
    refine ⟨by first | with_reducible assumption | omega | assumption, ?_⟩
    refine ⟨told_add (by with_reducible assumption), ?_⟩
    refine ⟨hin, ?_⟩
    refine And.intro ?_ ?_
    · skip
      intro y
      intro w1
      intro u
      refine ⟨told_add (by with_reducible assumption), ?_⟩
      refine ⟨by first | with_reducible assumption | omega | assumption, ?_⟩
      refine ⟨by first | with_reducible assumption | omega | assumption, ?_⟩
      exact ⟨rfl, rfl, by omega⟩
    · skip
      trivial
  · have hz' : (m : Int) ≤ i := by omega
    have hi : i = m := by omega
    subst hi
    obtain ⟨hx1, _⟩ := xpl_tab h
    have hx : mvJ (xpl i x y) g (st i i) = exg i x y g := by rw [← hx1]; rfl
    rw [hx]
    refine ⟨[Ans.o (Orc.b false)], fun u => of_eq ((↑i : Int) ≤ (↑i : Int) ∧ (63 : Nat) = (63 : Nat) ∧ hits [Out.mk Unit (AX.exit (0 : Nat)) [(9 : Nat)] (fun x => True) (fun x_1 => [I (↑(exg i x y g) : Int)]) (fun x => H.nil) fun x => []] (AX.exit (0 : Nat)) [I (↑i : Int), I (↑g : Int), I (↑x : Int), I (↑y : Int), u (4 : Nat), u (5 : Nat), u (6 : Nat), u (7 : Nat), u (8 : Nat), I (↑(exg i x y g) : Int), u (10 : Nat), u (11 : Nat), u (12 : Nat), u (13 : Nat), I (↑i : Int), I (↑i : Int), AV.bool false, u (17 : Nat), u (18 : Nat), u (19 : Nat), u (20 : Nat), u (21 : Nat), u (22 : Nat), u (23 : Nat), u (24 : Nat), u (25 : Nat), u (26 : Nat), u (27 : Nat), u (28 : Nat), u (29 : Nat), u (30 : Nat), u (31 : Nat), u (32 : Nat), u (33 : Nat), u (34 : Nat), u (35 : Nat), u (36 : Nat), u (37 : Nat), u (38 : Nat), u (39 : Nat), u (40 : Nat), u (41 : Nat), u (42 : Nat), u (43 : Nat), u (44 : Nat), u (45 : Nat), u (46 : Nat), u (47 : Nat), u (48 : Nat), u (49 : Nat), u (50 : Nat), u (51 : Nat), u (52 : Nat), u (53 : Nat), u (54 : Nat), u (55 : Nat), u (56 : Nat), u (57 : Nat), u (58 : Nat), u (59 : Nat), u (60 : Nat), u (61 : Nat), u (62 : Nat)] (H.mk [] [] [])) (by kernel_rfl) ?_⟩
    refine ⟨by first | with_reducible assumption | omega | assumption, ?_⟩
    refine ⟨by first | with_reducible assumption | omega | assumption, ?_⟩
    exact .inl ⟨(), trivial, rfl, rfl, rfl⟩
theorem ok98 : FokM Tryd.prog none1 98 Tryd.f98 := ⟨mixed, by kernel_rfl, by kernel_rfl, by kernel_rfl, by kernel_rfl⟩
theorem r98 (m : Nat) (g : Nat) (x : Nat) (y : Nat) (hp : n2 m x y ∧ g < 64) : Body ⟨Tryd.prog, Sof (P := Tryd.prog) [c124.to], Pof (P := Tryd.prog) [], H.nil.base, 300⟩ none1 Tryd.f98 [I m, I g, I x, I y] .nil (I (exg m x y g : Nat), .nil) := by
  have hl := lp98 m g x y hp.1 hp.2
  refine body_s ([Ans.loop [(0 : Nat), (1 : Nat), (2 : Nat), (3 : Nat), (9 : Nat), (14 : Nat), (15 : Nat)] [Out.mk Unit (AX.exit (0 : Nat)) [(9 : Nat)] (fun x => True) (fun x_1 => [I (↑(exg m x y g) : Int)]) (fun x => H.nil) fun y => []]]) (LoopS (Env.mk Tryd.prog (Sof [c124.to]) (Pof (P := Tryd.prog) []) H.nil.base (300 : Nat)) (loopAt Tryd.f98 (0 : Nat)) (63 : Nat) [(0 : Nat), (1 : Nat), (2 : Nat), (3 : Nat), (9 : Nat), (14 : Nat), (15 : Nat)] [I (↑m : Int), I (↑g : Int), I (↑x : Int), I (↑y : Int), I 0, I (↑m : Int), I 0] (H.mk [] [] []) [Out.mk Unit (AX.exit (0 : Nat)) [(9 : Nat)] (fun x => True) (fun x_1 => [I (↑(exg m x y g) : Int)]) (fun x => H.nil) fun y => []] ∧ (∀ (y_1 : Unit), True → ∀ (u : Nat → AV), (I (↑(exg m x y g) : Int), H.mk [] [] []) = (I (↑(exg m x y g) : Int), H.mk [] [] [])) ∧ True) (by kernel_rfl) ?_
  refine ⟨hl, ?_⟩
  refine And.intro ?_ ?_
  · skip
    intro y
    intro w1
    intro u
    rfl
  · skip
    trivial
noncomputable def c98 : PCtr Tryd.prog := sctr ok98 (X := Nat × Nat × Nat × Nat) (fun x => [I x.1, I x.2.1, I x.2.2.1, I x.2.2.2]) (fun x => n2 x.1 x.2.2.1 x.2.2.2 ∧ x.2.1 < 64) (fun x => I (exg x.1 x.2.2.1 x.2.2.2 x.2.1 : Nat)) (by intro x y e _ _; simp [Int.natCast_inj] at e; simp [e]) (fun x => by simp [AV.bnds, AV.bnd, AV.wk, rm_wk_bnd]) (fun x => by first | rfl | (simp [AV.bnd, rm_wk_bnd]; done)  | (simp [AV.bnd, AV.bnds, rm_wk_bnd]; done) | simp [AV.bnd, AV.bnds, Room.bnd, rm_wk_bnd]) (fun x hx => ⟨_, _, _, .pure c124 (.nil), r98 (x.1) (x.2.1) (x.2.2.1) (x.2.2.2) hx⟩)
end Go.Proofs.Evd
end
section
set_option maxHeartbeats 4000000
set_option maxRecDepth 100000
namespace Go.Proofs.Evd
open Go Go.VM
open Go.Proofs.Sur (W w_wrap w_nat w_inj w_eq0 w_and w_or w_andn w_shl w_shr neg_nat sub_nat tz tz_ok cl bits_cons bits_0 bits_len andn andn_bit andn_le i_wrap i_and i_or i_andn i_shl i_shr bit_01)

/-- neighbours' exchanges that make one of two nodes -/
def xpt (x y : Nat) : List Nat := match x, y with
  | 1, 0 => [0]
  | 2, 1 => [1]
  | 3, 2 => [2]
  | 2, 0 => [0, 1, 0]
  | 3, 1 => [1, 2, 1]
  | 3, 0 => [0, 1, 2, 1, 0]
  | _, _ => []
def xgB : Bool := (List.range 5).all fun m => (List.range 4).all fun x => (List.range 4).all fun y => !decide (2 ≤ m ∧ x < m ∧ y < x) || ((xpt x y).all (fun k => decide (k + 1 < m)) && (List.range 64).all fun g => !decide (g < 2 ^ nP m) || decide (exg m x y g = mvs m (xpt x y) g))
theorem xgB_t : xgB = true := by decide +kernel
theorem exg_mvs {m x y : Nat} (h : n2 m x y) : (xpt x y).all (fun k => decide (k + 1 < m)) = true ∧ ∀ g, g < 2 ^ nP m → exg m x y g = mvs m (xpt x y) g := by
  obtain ⟨⟨g1, g2⟩, g3, g4⟩ := h
  have q := List.all_eq_true.1 (List.all_eq_true.1 (List.all_eq_true.1 xgB_t m (List.mem_range.2 (by omega))) x (List.mem_range.2 (by omega))) y (List.mem_range.2 (by omega))
  rw [Bool.or_eq_true, Bool.not_eq_true', decide_eq_false_iff_not, Bool.and_eq_true] at q
  rcases q with q | ⟨q1, q2⟩
  · exact absurd ⟨g1, g3, g4⟩ q
  · refine ⟨q1, fun g hg => ?_⟩
    have h64 := p64 (nP_6 (m := m) (by omega))
    have q := List.all_eq_true.1 q2 g (List.mem_range.2 (by omega))
    rw [Bool.or_eq_true, Bool.not_eq_true', decide_eq_false_iff_not, decide_eq_true_eq] at q
    exact q.resolve_left (fun h => h hg)
theorem exg_next {m k : Nat} (h : nk m k) (g : Nat) : exg m (k + 1) k g = mv (plB m k) g := by
  rcases nk_cases h with ⟨rfl, rfl⟩ | ⟨rfl, rfl⟩ | ⟨rfl, rfl⟩ | ⟨rfl, rfl⟩ | ⟨rfl, rfl⟩ | ⟨rfl, rfl⟩ <;> rfl
/-- no exchange leads out -/
def Ex (m : Nat) (F : W) : Prop := ∀ x y, n2 m x y → ∀ g, hs F g = true → hs F (exg m x y g) = true
theorem ex_inv {m : Nat} (hm : 2 ≤ m ∧ m ≤ 4) {F : W} (hr : Rg (nP m) F) : Ex m F ↔ Inv m F := by
  constructor
  · intro h k hk g hg
    rw [← exg_next hk]
    exact h (k + 1) k ⟨hm, hk.2.2, by omega⟩ g hg
  · intro h x y hxy g hg
    obtain ⟨q1, q2⟩ := exg_mvs hxy
    rw [q2 g (hr g hg), mvs_same hm h _ g (hr g hg) q1]
    exact hg
theorem mvs_lt {m : Nat} (hm : 2 ≤ m ∧ m ≤ 4) : ∀ (p : List Nat) (g : Nat), g < 2 ^ nP m → p.all (fun k => decide (k + 1 < m)) = true → mvs m p g < 2 ^ nP m
  | [], g, hg, _ => hg
  | k :: p, g, hg, hp => by
    simp only [List.all_cons, Bool.and_eq_true, decide_eq_true_eq] at hp
    have hk : nk m k := ⟨hm.1, hm.2, hp.1⟩
    rw [mvs]
    exact mvs_lt hm p _ (mv_ok hk hg).1 hp.2
theorem exg_rg {m x y : Nat} (h : n2 m x y) {g : Nat} (hg : g < 2 ^ nP m) : exg m x y g < 2 ^ nP m := by
  obtain ⟨q1, q2⟩ := exg_mvs h
  rw [q2 g hg]
  exact mvs_lt h.1 _ g hg q1
/-! ### rounds of the reference -/
/-- a graph and its exchanges -/
def mxg (m g : Nat) : List Nat := g :: (List.range m).flatMap fun x => (List.range x).map fun y => exg m x y g
def mx (m : Nat) (F : W) : List Nat := (elts F).flatMap (mxg m)
def rnS (m : Nat) (F : W) : W := cls (fm (mx m F))
def itS (m : Nat) (F : W) : Nat → W
  | 0 => F
  | j + 1 => rnS m (itS m F j)
theorem mem_mxg {m g s : Nat} (hm : 2 ≤ m ∧ m ≤ 4) : s ∈ mxg m g ↔ s = g ∨ ∃ x y, n2 m x y ∧ s = exg m x y g := by
  simp only [mxg, List.mem_cons, List.mem_flatMap, List.mem_map, List.mem_range]
  constructor
  · rintro (h | ⟨x, h1, y, h2, h3⟩)
    · exact .inl h
    · exact .inr ⟨x, y, ⟨hm, h1, h2⟩, h3.symm⟩
  · rintro (h | ⟨x, y, ⟨_, h1, h2⟩, h3⟩)
    · exact .inl h
    · exact .inr ⟨x, h1, y, h2, h3.symm⟩
theorem mem_mx {m : Nat} {F : W} {s : Nat} (hm : 2 ≤ m ∧ m ≤ 4) : s ∈ mx m F ↔ ∃ g, hs F g = true ∧ (s = g ∨ ∃ x y, n2 m x y ∧ s = exg m x y g) := by
  simp only [mx, List.mem_flatMap, mem_mxg hm]
  constructor
  · rintro ⟨g, h1, h2⟩; exact ⟨g, Go.Proofs.Sur.mem_bits.1 h1, h2⟩
  · rintro ⟨g, h1, h2⟩; exact ⟨g, Go.Proofs.Sur.mem_bits.2 h1, h2⟩
theorem mx_lt {m : Nat} {F : W} (hm : 2 ≤ m ∧ m ≤ 4) (hr : Rg (nP m) F) {s : Nat} (h : s ∈ mx m F) : s < 2 ^ nP m := by
  obtain ⟨g, h1, h2 | ⟨x, y, h2, h3⟩⟩ := (mem_mx hm).1 h
  · rw [h2]; exact hr g h1
  · rw [h3]; exact exg_rg h2 (hr g h1)
theorem fm_mx {m : Nat} {F : W} (hm : 2 ≤ m ∧ m ≤ 4) (hr : Rg (nP m) F) {s : Nat} (h : s ∈ mx m F) : hs (fm (mx m F)) s = true :=
  (fm_bit (by have := mx_lt hm hr h; have := p64 (nP_6 hm.2); omega)).2 h
theorem le_cls (F : W) : leW F (cls F) := fun s h => (cls_bit (hs_lt h)).2 ⟨s, h, fun _ q => q⟩
theorem rnS_le {m : Nat} {F : W} (hm : 2 ≤ m ∧ m ≤ 4) (hr : Rg (nP m) F) : leW F (rnS m F) := fun s h => le_cls _ s (fm_mx hm hr ((mem_mx hm).2 ⟨s, h, .inl rfl⟩))
theorem rnS_rg {m : Nat} {F : W} (hm : 2 ≤ m ∧ m ≤ 4) (hr : Rg (nP m) F) : Rg (nP m) (rnS m F) := cls_rg fun s h => mx_lt hm hr ((fm_bit (hs_lt h)).1 h)
theorem itS_rg {m : Nat} {F : W} (hm : 2 ≤ m ∧ m ≤ 4) (hr : Rg (nP m) F) : ∀ j, Rg (nP m) (itS m F j)
  | 0 => hr
  | j + 1 => rnS_rg hm (itS_rg hm hr j)
theorem cls_in {F G : W} (h : leW F G) (hd : Dn G) : leW (cls F) G := fun s q => by
  obtain ⟨t, h1, h2⟩ := (cls_bit (hs_lt q)).1 q
  exact hd s t (h t h1) h2
theorem rnS_in {m : Nat} {F G : W} (hm : 2 ≤ m ∧ m ≤ 4) (h : leW F G) (hd : Dn G) (hx : Ex m G) : leW (rnS m F) G := cls_in (fun s q => by
  obtain ⟨g, h1, h2 | ⟨x, y, h2, h3⟩⟩ := (mem_mx hm).1 ((fm_bit (hs_lt q)).1 q)
  · rw [h2]; exact h g h1
  · rw [h3]; exact hx x y h2 g (h g h1)) hd
theorem itS_in {m : Nat} {F G : W} (hm : 2 ≤ m ∧ m ≤ 4) (h : leW F G) (hd : Dn G) (hx : Ex m G) : ∀ j, leW (itS m F j) G
  | 0 => h
  | j + 1 => rnS_in hm (itS_in hm h hd hx j) hd hx
theorem itS_le {m : Nat} {F : W} (hm : 2 ≤ m ∧ m ≤ 4) (hr : Rg (nP m) F) : ∀ j, leW F (itS m F j)
  | 0 => leW.refl F
  | j + 1 => (itS_le hm hr j).trans (rnS_le hm (itS_rg hm hr j))
theorem rnS_ex {m : Nat} {F : W} (hm : 2 ≤ m ∧ m ≤ 4) (hr : Rg (nP m) F) (h : rnS m F = F) : Ex m F := fun x y hxy g hg => by
  have := le_cls _ _ (fm_mx hm hr ((mem_mx hm).2 ⟨g, hg, .inr ⟨x, y, hxy, rfl⟩⟩))
  rw [← rnS, h] at this
  exact this
theorem xm_in {m : Nat} {F G : W} (hm : 2 ≤ m ∧ m ≤ 4) (h : leW F G) (hI : Inv m G) : ∀ i, i ≤ m - 1 → leW (xmJ m F i) G
  | 0, _ => h
  | i + 1, hi => fun s q => by
    have ih := xm_in hm h hI i (by omega)
    rw [xmJ, or_bit, Bool.or_eq_true] at q
    rcases q with q | q
    · exact ih s q
    · obtain ⟨g, h1, rfl⟩ := (exW_bit (hs_lt q)).1 q
      exact hI i ⟨hm.1, hm.2, by omega⟩ g (ih g h1)
theorem itr_in {m : Nat} {F G : W} (hm : 2 ≤ m ∧ m ≤ 4) (h : leW F G) (hI : Inv m G) : ∀ j, leW (itr m F j) G
  | 0 => h
  | j + 1 => xm_in hm (itr_in hm h hI j) hI _ (Nat.le_refl _)
/-- where the rounds stay, the least property is reached -/
theorem itS_sp {m : Nat} {F : W} (hm : 2 ≤ m ∧ m ≤ 4) (hr : Rg (nP m) F) {j : Nat} (h : rnS m (itS m (cls F) j) = itS m (cls F) j) : itS m (cls F) j = spV m F := by
  have hc := cls_rg hr
  have hj := itS_rg hm hc j
  have hx := rnS_ex hm hj h
  have hd : Dn (itS m (cls F) j) := by rw [← h]; exact cls_dn _
  have hf : Rg (nP m) (fix m F) := itr_rg hm hr 64
  have hsI : Inv m (spV m F) := inv_cls hf (inv_of (fix_fix m F))
  have hsr : Rg (nP m) (spV m F) := cls_rg hf
  have hsd : Dn (spV m F) := cls_dn _
  refine leW.antisymm ?_ ?_
  · refine itS_in hm (cls_in (fun s q => le_cls _ s (itr_le m F 64 s q)) hsd) hsd ((ex_inv hm hsr).2 hsI) j
  · exact cls_in (itr_in hm (fun s q => itS_le hm hc j s (le_cls F s q)) ((ex_inv hm hj).1 hx) 64) hd
end Go.Proofs.Evd
end
