/- Layer 5: the reference's pairs; the law of joins. -/
import Derived.Test.YtlomlnkafakloaaDoorSvA
import Derived.Test.YtlomlnkafakloaaDoorSuI
import Derived.KernelRfl
set_option linter.unusedSimpArgs false
set_option linter.unusedVariables false
set_option linter.unnecessarySimpa false
set_option maxHeartbeats 4000000
set_option maxRecDepth 100000
namespace Go.Proofs.Sur
open Go Go.VM

theorem cut_g2 {g : List Int} (h : sz (cut g)) : cut g = g := by
  have h1 := h.2
  have : (cut g).length = min 80 g.length := by simp [cut]
  exact List.take_of_length_le (by omega)
theorem cut_gr2 {g : List Int} : Gr (cut g) ↔ Gr g := by
  constructor
  · intro h; rw [cut_g2 h.1] at h; exact h
  · intro h
    have : cut g = g := List.take_of_length_le (by have := h.1.2; omega)
    rw [this]; exact h
/-- the sets under way -/
def pbW (w : List W) (x y : Nat) : Nat := (wt_ w x &&& ~~~(1#64 <<< x) &&& BitVec.ofNat 64 (2 ^ y - 1)).toNat
theorem msk_bit {y k : Nat} (h : y ≤ 63) (hk : k < 64) : (BitVec.ofNat 64 (2 ^ y - 1)).getLsbD k = decide (k < y) := by
  rw [BitVec.getLsbD_ofNat, Nat.testBit_two_pow_sub_one]; simp [hk]
theorem pb_bit (w : List W) {x y k : Nat} (hx : x < 64) (h : y ≤ 63) (hk : k < 64) : (pbW w x y).testBit k = ((wt_ w x).getLsbD k && !decide (k = x) && decide (k < y)) := by
  show (wt_ w x &&& ~~~(1#64 <<< x) &&& BitVec.ofNat 64 (2 ^ y - 1)).getLsbD k = _
  rw [BitVec.getLsbD_and, BitVec.getLsbD_and, BitVec.getLsbD_not, one_bit hx, msk_bit h hk]
  simp [hk]
theorem pb_lt (w : List W) (x y : Nat) : pbW w x y < 2 ^ 64 := BitVec.isLt _
theorem nat_ext64 {a b : Nat} (ha : a < 2 ^ 64) (hb : b < 2 ^ 64) (h : ∀ k, k < 64 → a.testBit k = b.testBit k) : a = b := by
  apply Nat.eq_of_testBit_eq; intro k
  by_cases hk : k < 64
  · exact h k hk
  · have hp : 2 ^ 64 ≤ 2 ^ k := Nat.pow_le_pow_right (by decide) (by omega)
    rw [Nat.testBit_lt_two_pow (Nat.lt_of_lt_of_le ha hp), Nat.testBit_lt_two_pow (Nat.lt_of_lt_of_le hb hp)]
theorem pb_0 (w : List W) {x : Nat} (hx : x < 64) : pbW w x 0 = 0 := nat_ext64 (pb_lt _ _ _) (by decide) (fun k hk => by rw [pb_bit w hx (by omega) hk]; simp)
theorem pb_no (w : List W) {x y : Nat} (hx : x < 64) (hy : y < 63) (h : ((wt_ w x).getLsbD y && !decide (y = x)) = false) : pbW w x (y + 1) = pbW w x y := nat_ext64 (pb_lt _ _ _) (pb_lt _ _ _) (fun k hk => by
  rw [pb_bit w hx (by omega) hk, pb_bit w hx (by omega) hk]
  by_cases e : k = y
  · subst e; rw [h]; rfl
  · congr 1; simp only [decide_eq_decide]; omega)
theorem pb_yes (w : List W) {x y : Nat} (hx : x < 64) (hy : y < 62) (h : ((wt_ w x).getLsbD y && !decide (y = x)) = true) : pbW w x (y + 1) = pbW w x y ||| 2 ^ y := by
  refine nat_ext64 (pb_lt _ _ _) (Nat.or_lt_two_pow (pb_lt _ _ _) (Nat.pow_lt_pow_right (by decide) (by omega))) (fun k hk => ?_)
  rw [Nat.testBit_or, Nat.testBit_two_pow, pb_bit w hx (by omega) hk, pb_bit w hx (by omega) hk]
  by_cases e : k = y
  · subst e; rw [h]; simp
  · have e2 : ¬ y = k := fun h => e h.symm
    rw [decide_eq_false e2, Bool.or_false]; congr 1; simp only [decide_eq_decide]; omega
theorem pb_n (w : List W) {x n : Nat} (hx : x < 64) (hn : n ≤ 62) (hs : sub (wt_ w x) n) : ((pbW w x n : Nat) : Int) = apB w x := by
  have : pbW w x n = (wt_ w x &&& ~~~(1#64 <<< x)).toNat := nat_ext64 (pb_lt _ _ _) (BitVec.isLt _) (fun k hk => by
    rw [pb_bit w hx (by omega) hk]
    show _ = (wt_ w x &&& ~~~(1#64 <<< x)).getLsbD k
    rw [BitVec.getLsbD_and, BitVec.getLsbD_not, one_bit hx]
    cases hb : (wt_ w x).getLsbD k
    · simp
    · have := hs k hb; simp [this, hk])
  rw [this]; rfl
theorem pb_small (w : List W) {x y : Nat} (hx : x < 64) (hy : y ≤ 62) : pbW w x y < 2 ^ y := by
  refine Nat.lt_pow_two_of_testBit _ (fun k hk => ?_)
  by_cases h : k < 64
  · rw [pb_bit w hx (by omega) h]; simp; omega
  · exact Nat.testBit_lt_two_pow (Nat.lt_of_lt_of_le (pb_lt w x y) (Nat.pow_le_pow_right (by decide) (by omega)))
/-- what the reference asks of a pair of pairs -/
def jq (g h : List Int) (x y : Nat) : Bool := !decide (x = y) && (decide (x / h.length = y / h.length) || bi (at_ g (x / h.length)) (y / h.length)) && (decide (x % h.length = y % h.length) || bi (at_ h (x % h.length)) (y % h.length))
theorem jq_ok {g h : List Int} (hg : Gr g) (hh : Gr h) (hl : g.length * h.length ≤ 6) {x y : Nat} (hx : x < g.length * h.length) (hy : y < g.length * h.length) : ((wt_ (prV (nrV g) (nrV h)) x).getLsbD y && !decide (y = x)) = jq g h x y := by
  have pn : 0 < h.length := hh.1.1
  obtain ⟨x1, x2⟩ : x / h.length < g.length ∧ x % h.length < h.length := ⟨by rw [Nat.div_lt_iff_lt_mul pn]; exact hx, Nat.mod_lt _ pn⟩
  obtain ⟨y1, y2⟩ : y / h.length < g.length ∧ y % h.length < h.length := ⟨by rw [Nat.div_lt_iff_lt_mul pn]; exact hy, Nat.mod_lt _ pn⟩
  have n1 := nrV_gd hg
  have n2 := nrV_gd hh
  have l1 := nrV_len g
  have l2 := nrV_len h
  have g6 := hg.1.2
  have h6 := hh.1.2
  rw [prV_get (nrV h) n2.1.1 (nrV g) x (by rw [l1, l2]; exact hx), l2]
  have e := prW_iff (x := wt_ (nrV g) (x / h.length)) (y := wt_ (nrV h) (x % h.length)) (m := g.length) (n := h.length) (k := y) (by have := n1.2.1 (x / h.length) (by rw [l1]; exact x1); rw [l1] at this; exact this) (by have := n2.2.1 (x % h.length) (by rw [l2]; exact x2); rw [l2] at this; exact this) (by omega) hy
  rw [e, nrV_get x1, nrV_get x2, nrB_bit hg.1 x1 (by omega), nrB_bit hh.1 x2 (by omega)]
  have d1 : decide (y / h.length = x / h.length) = decide (x / h.length = y / h.length) := by simp only [decide_eq_decide]; omega
  have d2 : decide (y % h.length = x % h.length) = decide (x % h.length = y % h.length) := by simp only [decide_eq_decide]; omega
  have d3 : decide (y = x) = decide (x = y) := by simp only [decide_eq_decide]; omega
  rw [jq, d1, d2, d3]
  cases decide (x = y) <;> cases decide (x / h.length = y / h.length) <;> cases decide (x % h.length = y % h.length) <;> cases bi (at_ g (x / h.length)) (y / h.length) <;> cases bi (at_ h (x % h.length)) (y % h.length) <;> rfl
abbrev jw (g h : List Int) : List W := prV (nrV g) (nrV h)
abbrev jb (g h : List Int) (N x y : Nat) : H := ⟨[ints ((fil (apB (jw g h)) i0 N x).set x (pbW (jw g h) x y : Nat))], [], []⟩
abbrev o47i (g : List Int) (r : Room) (h : List Int) (q : Room) (N x : Nat) : List Out :=
  [.mk Unit (.exit 2) [0, 1, 5, 6, 21, 22] (fun _ => True) (fun _ => [ls g r, ls h q, I h.length, .msl 0 0 N N 1, I (N : Int), I (x : Int)]) (fun _ => ⟨[ints (fil (apB (jw g h)) i0 N (x + 1))], [], []⟩) (fun _ => [])]
theorem simp47i : allSimpleM none1 (loopAt Tryd.f47 1) = true := by kernel_rfl
theorem getD_setI {l : List Int} {i : Nat} (h : i < l.length) (x : Int) : (l.set i x).getD i i0 = x := by
  simp [List.getD_eq_getElem?_getD, h]
theorem fil_setd {α : Type} (f : Nat → α) (d : α) (n j : Nat) : (fil f d n j).set j d = fil f d n j := by
  apply List.ext_getElem
  · simp
  · intro i h1 h2
    simp only [fil, List.getElem_set, List.getElem_map, List.getElem_range]
    by_cases e : j = i
    · subst e; simp
    · rw [if_neg e]
theorem lp47i (g : List Int) (r : Room) (h : List Int) (q : Room) (hg : Gr g ∧ rok g r) (hh : Gr h ∧ rok h q) (N : Nat) (hN : g.length * h.length = N) (hl : N ≤ 6) (x : Nat) (hx : x < N) :
    LoopS (En6 []) (loopAt Tryd.f47 1) 86 [0, 1, 5, 6, 7, 21, 22, 26, 27] [ls g r, ls h q, I h.length, .msl 0 0 N N 1, I (x : Int), I (N : Int), I (x : Int), I (N : Int), I 0] ⟨[ints (fil (apB (jw g h)) i0 N x)], [], []⟩ (o47i g r h q N x) := by
  have hR : Rests (En6 []) none1 := rests mixed .nil
  have pn : 0 < h.length := hh.1.1.1
  have g6 := hg.1.1.2
  have h6 := hh.1.1.2
  have hx64 : x < 64 := by omega
  have e0 : (fil (apB (jw g h)) i0 N x) = (fil (apB (jw g h)) i0 N x).set x ((pbW (jw g h) x 0 : Nat) : Int) := by rw [pb_0 _ hx64]; exact (fil_setd _ _ _ _).symm
  rw [e0]
  refine loop_s hR simp47i none (by intro _ h; cases h) (fun y vs H => H = jb g h N x y ∧ vs = [ls g r, ls h q, I h.length, .msl 0 0 N N 1, I (x : Int), I (N : Int), I (x : Int), I (N : Int), I (y : Int)]) N ⟨rfl, rfl⟩ (by intro _ h; cases h) ?_
  rintro y vs H hy ⟨rfl, rfl⟩
  by_cases hz : (y : Int) < N
  · have hz' : y < N := by omega
    obtain ⟨x1, x2⟩ : x / h.length < g.length ∧ x % h.length < h.length := ⟨by rw [Nat.div_lt_iff_lt_mul pn, hN]; exact hx, Nat.mod_lt _ pn⟩
    obtain ⟨y1, y2⟩ : y / h.length < g.length ∧ y % h.length < h.length := ⟨by rw [Nat.div_lt_iff_lt_mul pn, hN]; exact hz', Nat.mod_lt _ pn⟩
    have n0 : (h.length : Int) ≠ 0 := by omega
    have n1 : (0 : Int) < h.length := by omega
    have eva : Int.tmod (x : Int) (h.length : Int) = ((x % h.length : Nat) : Int) := rfl
    have evb : Int.tmod (y : Int) (h.length : Int) = ((y % h.length : Nat) : Int) := rfl
    have evc : Int.tdiv (x : Int) (h.length : Int) = ((x / h.length : Nat) : Int) := rfl
    have evd : Int.tdiv (y : Int) (h.length : Int) = ((y / h.length : Nat) : Int) := rfl
    have eve := i_modw (a := x) (n := h.length) (by omega)
    have evf := i_modw (a := y) (n := h.length) (by omega)
    have evg := i_div (a := x) (n := h.length) (by omega)
    have evh := i_div (a := y) (n := h.length) (by omega)
    have ra := rok_idx hg.2 x1
    have rb := rok_idx hh.2 x2
    have ba := rg_lt hg.1.1 hg.1.2.1 x1
    have bb := rg_lt hh.1.1 hh.1.2.1 x2
    have hj := jq_ok hg.1 hh.1 (by omega) (x := x) (y := y) (by omega) (by omega)
    have hls : x < ((fil (apB (jw g h)) i0 N x).set x ((pbW (jw g h) x y : Nat) : Int)).length := by simp; exact hx
    have hlf : x < (fil (apB (jw g h)) i0 N x).length := by simp; exact hx
    have eg := getD_setI hlf ((pbW (jw g h) x y : Nat) : Int)
    have evi := pw_shl (n := y) (by omega)
    have evj := i_or (a := pbW (jw g h) x y) (b := 2 ^ y) (Nat.lt_of_lt_of_le (pb_small _ hx64 (by omega)) (Nat.le_trans (Nat.pow_le_pow_right (by decide) (show y ≤ 62 by omega)) (by decide : 2 ^ 62 ≤ 9223372036854775808))) (Nat.lt_of_le_of_lt (Nat.pow_le_pow_right (by decide) (show y ≤ 62 by omega)) (by decide : 2 ^ 62 < 9223372036854775808))
    rw [← eg] at evj
    have no : jq g h x y = false → pbW (jw g h) x (y + 1) = pbW (jw g h) x y := fun e => pb_no _ hx64 (by omega) (by rw [hj]; exact e)
    have yes : jq g h x y = true → pbW (jw g h) x (y + 1) = pbW (jw g h) x y ||| 2 ^ y := fun e => pb_yes _ hx64 (by omega) (by rw [hj]; exact e)
    by_cases c0 : x = y
    · have c0' : (x : Int) = (y : Int) := by omega
      have e := no (by rw [jq, decide_eq_true c0]; rfl)
      refine ⟨[Ans.o (Orc.b true), Ans.o (Orc.val (32 : Nat) (I (↑(x / h.length) : Int)) (H.mk [ints ((fil (apB (jw g h)) i0 N x).set x (↑(pbW (jw g h) x y) : Int))] [] [])), Ans.o (Orc.val (35 : Nat) (I (↑(y / h.length) : Int)) (H.mk [ints ((fil (apB (jw g h)) i0 N x).set x (↑(pbW (jw g h) x y) : Int))] [] [])), Ans.o (Orc.val (38 : Nat) (I (↑(x % h.length) : Int)) (H.mk [ints ((fil (apB (jw g h)) i0 N x).set x (↑(pbW (jw g h) x y) : Int))] [] [])), Ans.o (Orc.val (41 : Nat) (I (↑(y % h.length) : Int)) (H.mk [ints ((fil (apB (jw g h)) i0 N x).set x (↑(pbW (jw g h) x y) : Int))] [] [])), Ans.o (Orc.b false)], fun u => of_eq ((↑y : Int) < (↑N : Int) ∧ aBin Tryd.prog BinOp.quo (3 : Nat) (I (↑x : Int)) (I (↑h.length : Int)) = some (I (↑(x / h.length) : Int)) ∧ aBin Tryd.prog BinOp.quo (3 : Nat) (I (↑y : Int)) (I (↑h.length : Int)) = some (I (↑(y / h.length) : Int)) ∧ aBin Tryd.prog BinOp.rem (3 : Nat) (I (↑x : Int)) (I (↑h.length : Int)) = some (I (↑(x % h.length) : Int)) ∧ aBin Tryd.prog BinOp.rem (3 : Nat) (I (↑y : Int)) (I (↑h.length : Int)) = some (I (↑(y % h.length) : Int)) ∧ (↑x : Int) = (↑y : Int) ∧ IntKind.i64.wrap ((↑y : Int) + (1 : Int)) = (↑y : Int) + (1 : Int) ∧ (86 : Nat) = (86 : Nat) ∧ y < N ∧ Keep (H.mk [ints ((fil (apB (jw g h)) i0 N x).set x (↑(pbW (jw g h) x y) : Int))] [] [] = H.mk [ints ((fil (apB (jw g h)) i0 N x).set x (↑(pbW (jw g h) x (y + (1 : Nat))) : Int))] [] [] ∧ [AV.sl (ints g) g.length r, AV.sl (ints h) h.length q, I (↑h.length : Int), AV.msl (0 : Nat) (0 : Nat) N N (1 : Nat), I (↑x : Int), I (↑N : Int), I (↑x : Int), I (↑N : Int), I ((↑y : Int) + (1 : Int))] = [AV.sl (ints g) g.length r, AV.sl (ints h) h.length q, I (↑h.length : Int), AV.msl (0 : Nat) (0 : Nat) N N (1 : Nat), I (↑x : Int), I (↑N : Int), I (↑x : Int), I (↑N : Int), I (↑(y + (1 : Nat)) : Int)])) (by kernel_rfl) ?_⟩
      refine And.intro (by first | with_reducible assumption | omega | assumption) ?_
      refine And.intro (by exact told_quo (by first | decide | omega) (by with_reducible assumption)) ?_
      refine And.intro (by exact told_quo (by first | decide | omega) (by with_reducible assumption)) ?_
      refine And.intro (by exact told_rem (by first | decide | omega) (by with_reducible assumption)) ?_
      refine And.intro (by exact told_rem (by first | decide | omega) (by with_reducible assumption)) ?_
      refine And.intro (by first | with_reducible assumption | omega | assumption) ?_
      refine And.intro (by exact wr _ (by omega) (by omega)) ?_
      refine And.intro (by first | with_reducible assumption | omega | assumption) ?_
      refine And.intro (by first | with_reducible assumption | omega | assumption) ?_
      exact ⟨by rw [e], rfl⟩
    · have c0' : (x : Int) ≠ (y : Int) := by omega
      have hq0 : jq g h x y = ((decide (x / h.length = y / h.length) || bi (at_ g (x / h.length)) (y / h.length)) && (decide (x % h.length = y % h.length) || bi (at_ h (x % h.length)) (y % h.length))) := by rw [jq, decide_eq_false c0]; rfl
      by_cases a1 : x / h.length = y / h.length
      · have a1' : ((x / h.length : Nat) : Int) = ((y / h.length : Nat) : Int) := by omega
        rw [decide_eq_true a1, Bool.true_or, Bool.true_and] at hq0
        by_cases b1 : x % h.length = y % h.length
        · have b1' : ((x % h.length : Nat) : Int) = ((y % h.length : Nat) : Int) := by omega
          have e := yes (by rw [hq0, decide_eq_true b1]; rfl)
          refine ⟨[Ans.o (Orc.b true), Ans.o (Orc.val (32 : Nat) (I (↑(x / h.length) : Int)) (H.mk [ints ((fil (apB (jw g h)) i0 N x).set x (↑(pbW (jw g h) x y) : Int))] [] [])), Ans.o (Orc.val (35 : Nat) (I (↑(y / h.length) : Int)) (H.mk [ints ((fil (apB (jw g h)) i0 N x).set x (↑(pbW (jw g h) x y) : Int))] [] [])), Ans.o (Orc.val (38 : Nat) (I (↑(x % h.length) : Int)) (H.mk [ints ((fil (apB (jw g h)) i0 N x).set x (↑(pbW (jw g h) x y) : Int))] [] [])), Ans.o (Orc.val (41 : Nat) (I (↑(y % h.length) : Int)) (H.mk [ints ((fil (apB (jw g h)) i0 N x).set x (↑(pbW (jw g h) x y) : Int))] [] [])), Ans.o (Orc.b true), Ans.o (Orc.b true), Ans.o (Orc.b true), Ans.o (Orc.val (77 : Nat) (AV.ptr (0 : Nat) x) (H.mk [ints ((fil (apB (jw g h)) i0 N x).set x (↑(pbW (jw g h) x y) : Int))] [] [])), Ans.o (Orc.val (78 : Nat) (I (((fil (apB (jw g h)) i0 N x).set x (↑(pbW (jw g h) x y) : Int)).getD x i0)) (H.mk [ints ((fil (apB (jw g h)) i0 N x).set x (↑(pbW (jw g h) x y) : Int))] [] [])), Ans.o (Orc.val (80 : Nat) (I (↑((2 : Nat) ^ y) : Int)) (H.mk [ints ((fil (apB (jw g h)) i0 N x).set x (↑(pbW (jw g h) x y) : Int))] [] [])), Ans.o (Orc.val (81 : Nat) (I (↑(pbW (jw g h) x y ||| (2 : Nat) ^ y) : Int)) (H.mk [ints ((fil (apB (jw g h)) i0 N x).set x (↑(pbW (jw g h) x y) : Int))] [] [])), Ans.o (Orc.val (82 : Nat) (AV.ptr (0 : Nat) x) (H.mk [ints ((fil (apB (jw g h)) i0 N x).set x (↑(pbW (jw g h) x y) : Int))] [] [])), Ans.o (Orc.val (9999 : Nat) (AV.tup []) (H.mk [ints (((fil (apB (jw g h)) i0 N x).set x (↑(pbW (jw g h) x y) : Int)).set x (↑(pbW (jw g h) x y ||| (2 : Nat) ^ y) : Int))] [] []))], fun u => of_eq ((↑y : Int) < (↑N : Int) ∧ aBin Tryd.prog BinOp.quo (3 : Nat) (I (↑x : Int)) (I (↑h.length : Int)) = some (I (↑(x / h.length) : Int)) ∧ aBin Tryd.prog BinOp.quo (3 : Nat) (I (↑y : Int)) (I (↑h.length : Int)) = some (I (↑(y / h.length) : Int)) ∧ aBin Tryd.prog BinOp.rem (3 : Nat) (I (↑x : Int)) (I (↑h.length : Int)) = some (I (↑(x % h.length) : Int)) ∧ aBin Tryd.prog BinOp.rem (3 : Nat) (I (↑y : Int)) (I (↑h.length : Int)) = some (I (↑(y % h.length) : Int)) ∧ (↑x : Int) ≠ (↑y : Int) ∧ (↑(x / h.length) : Int) = (↑(y / h.length) : Int) ∧ (↑(x % h.length) : Int) = (↑(y % h.length) : Int) ∧ aIndexAddr Tryd.prog (22 : Nat) (AV.msl (0 : Nat) (0 : Nat) N N (1 : Nat)) (I (↑x : Int)) = some (AV.ptr (0 : Nat) x) ∧ aLoad Tryd.prog (3 : Nat) (List.drop x (ints ((fil (apB (jw g h)) i0 N x).set x (↑(pbW (jw g h) x y) : Int)))) = some (I (((fil (apB (jw g h)) i0 N x).set x (↑(pbW (jw g h) x y) : Int)).getD x i0)) ∧ aBin Tryd.prog BinOp.shl (3 : Nat) (I (1 : Int)) (I (↑y : Int)) = some (I (↑((2 : Nat) ^ y) : Int)) ∧ aBin Tryd.prog BinOp.or (3 : Nat) (I (((fil (apB (jw g h)) i0 N x).set x (↑(pbW (jw g h) x y) : Int)).getD x i0)) (I (↑((2 : Nat) ^ y) : Int)) = some (I (↑(pbW (jw g h) x y ||| (2 : Nat) ^ y) : Int)) ∧ aIndexAddr Tryd.prog (22 : Nat) (AV.msl (0 : Nat) (0 : Nat) N N (1 : Nat)) (I (↑x : Int)) = some (AV.ptr (0 : Nat) x) ∧ aStore Tryd.prog H.nil.base (3 : Nat) (AV.ptr (0 : Nat) x) (I (↑(pbW (jw g h) x y ||| (2 : Nat) ^ y) : Int)) (H.mk [ints ((fil (apB (jw g h)) i0 N x).set x (↑(pbW (jw g h) x y) : Int))] [] []) = some (H.mk [ints (((fil (apB (jw g h)) i0 N x).set x (↑(pbW (jw g h) x y) : Int)).set x (↑(pbW (jw g h) x y ||| (2 : Nat) ^ y) : Int))] [] []) ∧ IntKind.i64.wrap ((↑y : Int) + (1 : Int)) = (↑y : Int) + (1 : Int) ∧ (86 : Nat) = (86 : Nat) ∧ y < N ∧ Keep (H.mk [ints (((fil (apB (jw g h)) i0 N x).set x (↑(pbW (jw g h) x y) : Int)).set x (↑(pbW (jw g h) x y ||| (2 : Nat) ^ y) : Int))] [] [] = H.mk [ints ((fil (apB (jw g h)) i0 N x).set x (↑(pbW (jw g h) x (y + (1 : Nat))) : Int))] [] [] ∧ [AV.sl (ints g) g.length r, AV.sl (ints h) h.length q, I (↑h.length : Int), AV.msl (0 : Nat) (0 : Nat) N N (1 : Nat), I (↑x : Int), I (↑N : Int), I (↑x : Int), I (↑N : Int), I ((↑y : Int) + (1 : Int))] = [AV.sl (ints g) g.length r, AV.sl (ints h) h.length q, I (↑h.length : Int), AV.msl (0 : Nat) (0 : Nat) N N (1 : Nat), I (↑x : Int), I (↑N : Int), I (↑x : Int), I (↑N : Int), I (↑(y + (1 : Nat)) : Int)])) (by kernel_rfl) ?_⟩
          refine And.intro (by first | with_reducible assumption | omega | assumption) ?_
          refine And.intro (by exact told_quo (by first | decide | omega) (by with_reducible assumption)) ?_
          refine And.intro (by exact told_quo (by first | decide | omega) (by with_reducible assumption)) ?_
          refine And.intro (by exact told_rem (by first | decide | omega) (by with_reducible assumption)) ?_
          refine And.intro (by exact told_rem (by first | decide | omega) (by with_reducible assumption)) ?_
          refine And.intro (by first | with_reducible assumption | omega | assumption) ?_
          refine And.intro (by first | with_reducible assumption | omega | assumption) ?_
          refine And.intro (by first | with_reducible assumption | omega | assumption) ?_
          refine And.intro (by first | exact ixm0 (by kernel_rfl) (by omega) | exact ixa0 (by kernel_rfl) (by omega)) ?_
          refine And.intro (by first | exact ldm_ints (by kernel_rfl) (by kernel_rfl) hls | exact ld_ints (by kernel_rfl) (by kernel_rfl) (by omega)) ?_
          refine And.intro (by first | exact told_shl (by first | exact Int.natCast_nonneg _ | omega) (by with_reducible assumption) | exact told_shl (by omega) rfl) ?_
          refine And.intro (by exact told_or (by with_reducible assumption)) ?_
          refine And.intro (by first | exact ixm0 (by kernel_rfl) (by omega) | exact ixa0 (by kernel_rfl) (by omega)) ?_
          refine And.intro (by exact st_ints (by kernel_rfl) rfl hls) ?_
          refine And.intro (by exact wr _ (by omega) (by omega)) ?_
          refine And.intro (by first | with_reducible assumption | omega | assumption) ?_
          refine And.intro (by first | with_reducible assumption | omega | assumption) ?_
          exact ⟨by rw [List.set_set, e], rfl⟩
        · have b1' : ((x % h.length : Nat) : Int) ≠ ((y % h.length : Nat) : Int) := by omega
          rw [decide_eq_false b1, Bool.false_or] at hq0
          cases b2 : bi (at_ h (x % h.length)) (y % h.length)
          · obtain ⟨evk, evl⟩ := i_bitv bb.1 bb.2 (show y % h.length ≤ 64 by omega) false b2
            have evl : _ = (0 : Int) := evl
            have e := no (by rw [hq0, b2])
            refine ⟨[Ans.o (Orc.b true), Ans.o (Orc.val (32 : Nat) (I (↑(x / h.length) : Int)) (H.mk [ints ((fil (apB (jw g h)) i0 N x).set x (↑(pbW (jw g h) x y) : Int))] [] [])), Ans.o (Orc.val (35 : Nat) (I (↑(y / h.length) : Int)) (H.mk [ints ((fil (apB (jw g h)) i0 N x).set x (↑(pbW (jw g h) x y) : Int))] [] [])), Ans.o (Orc.val (38 : Nat) (I (↑(x % h.length) : Int)) (H.mk [ints ((fil (apB (jw g h)) i0 N x).set x (↑(pbW (jw g h) x y) : Int))] [] [])), Ans.o (Orc.val (41 : Nat) (I (↑(y % h.length) : Int)) (H.mk [ints ((fil (apB (jw g h)) i0 N x).set x (↑(pbW (jw g h) x y) : Int))] [] [])), Ans.o (Orc.b true), Ans.o (Orc.b true), Ans.o (Orc.b false), Ans.o (Orc.val (67 : Nat) (AV.cptr (ints (List.drop (x % h.length) h))) (H.mk [ints ((fil (apB (jw g h)) i0 N x).set x (↑(pbW (jw g h) x y) : Int))] [] [])), Ans.o (Orc.val (68 : Nat) (I (h.getD (x % h.length) i0)) (H.mk [ints ((fil (apB (jw g h)) i0 N x).set x (↑(pbW (jw g h) x y) : Int))] [] [])), Ans.o (Orc.val (70 : Nat) (I (↑((at_ h (x % h.length)).toNat >>> (y % h.length)) : Int)) (H.mk [ints ((fil (apB (jw g h)) i0 N x).set x (↑(pbW (jw g h) x y) : Int))] [] [])), Ans.o (Orc.val (71 : Nat) (I (↑false.toNat : Int)) (H.mk [ints ((fil (apB (jw g h)) i0 N x).set x (↑(pbW (jw g h) x y) : Int))] [] [])), Ans.o Orc.dflt], fun u => of_eq ((↑y : Int) < (↑N : Int) ∧ aBin Tryd.prog BinOp.quo (3 : Nat) (I (↑x : Int)) (I (↑h.length : Int)) = some (I (↑(x / h.length) : Int)) ∧ aBin Tryd.prog BinOp.quo (3 : Nat) (I (↑y : Int)) (I (↑h.length : Int)) = some (I (↑(y / h.length) : Int)) ∧ aBin Tryd.prog BinOp.rem (3 : Nat) (I (↑x : Int)) (I (↑h.length : Int)) = some (I (↑(x % h.length) : Int)) ∧ aBin Tryd.prog BinOp.rem (3 : Nat) (I (↑y : Int)) (I (↑h.length : Int)) = some (I (↑(y % h.length) : Int)) ∧ (↑x : Int) ≠ (↑y : Int) ∧ (↑(x / h.length) : Int) = (↑(y / h.length) : Int) ∧ (↑(x % h.length) : Int) ≠ (↑(y % h.length) : Int) ∧ aIndexAddr Tryd.prog (22 : Nat) (AV.sl (ints h) h.length q) (I (↑(x % h.length) : Int)) = some (AV.cptr (ints (List.drop (x % h.length) h))) ∧ aLoad Tryd.prog (3 : Nat) (ints (List.drop (x % h.length) h)) = some (I (h.getD (x % h.length) i0)) ∧ aBin Tryd.prog BinOp.shr (3 : Nat) (I (h.getD (x % h.length) i0)) (I (↑(y % h.length) : Int)) = some (I (↑((at_ h (x % h.length)).toNat >>> (y % h.length)) : Int)) ∧ aBin Tryd.prog BinOp.and (3 : Nat) (I (↑((at_ h (x % h.length)).toNat >>> (y % h.length)) : Int)) (I (1 : Int)) = some (I (0 : Int)) ∧ IntKind.i64.wrap ((↑y : Int) + (1 : Int)) = (↑y : Int) + (1 : Int) ∧ (86 : Nat) = (86 : Nat) ∧ y < N ∧ Keep (H.mk [ints ((fil (apB (jw g h)) i0 N x).set x (↑(pbW (jw g h) x y) : Int))] [] [] = H.mk [ints ((fil (apB (jw g h)) i0 N x).set x (↑(pbW (jw g h) x (y + (1 : Nat))) : Int))] [] [] ∧ [AV.sl (ints g) g.length r, AV.sl (ints h) h.length q, I (↑h.length : Int), AV.msl (0 : Nat) (0 : Nat) N N (1 : Nat), I (↑x : Int), I (↑N : Int), I (↑x : Int), I (↑N : Int), I ((↑y : Int) + (1 : Int))] = [AV.sl (ints g) g.length r, AV.sl (ints h) h.length q, I (↑h.length : Int), AV.msl (0 : Nat) (0 : Nat) N N (1 : Nat), I (↑x : Int), I (↑N : Int), I (↑x : Int), I (↑N : Int), I (↑(y + (1 : Nat)) : Int)])) (by kernel_rfl) ?_⟩
            refine And.intro (by first | with_reducible assumption | omega | assumption) ?_
            refine And.intro (by exact told_quo (by first | decide | omega) (by with_reducible assumption)) ?_
            refine And.intro (by exact told_quo (by first | decide | omega) (by with_reducible assumption)) ?_
            refine And.intro (by exact told_rem (by first | decide | omega) (by with_reducible assumption)) ?_
            refine And.intro (by exact told_rem (by first | decide | omega) (by with_reducible assumption)) ?_
            refine And.intro (by first | with_reducible assumption | omega | assumption) ?_
            refine And.intro (by first | with_reducible assumption | omega | assumption) ?_
            refine And.intro (by first | with_reducible assumption | omega | assumption) ?_
            refine And.intro (by first | exact ix_ints (by kernel_rfl) (by omega) (by assumption) | exact ix_ints (by kernel_rfl) (by omega) (rok_idx (by assumption) (by omega))) ?_
            refine And.intro (by first | exact ldm_ints (by kernel_rfl) (by kernel_rfl) hls | exact ld_ints (by kernel_rfl) (by kernel_rfl) (by omega)) ?_
            refine And.intro (by first | exact told_shr (by first | exact Int.natCast_nonneg _ | omega) (by with_reducible assumption) | exact told_shr (by omega) rfl) ?_
            refine And.intro (by exact told_and (by with_reducible assumption)) ?_
            refine And.intro (by exact wr _ (by omega) (by omega)) ?_
            refine And.intro (by first | with_reducible assumption | omega | assumption) ?_
            refine And.intro (by first | with_reducible assumption | omega | assumption) ?_
            exact ⟨by rw [e], rfl⟩
          · obtain ⟨evk, evl⟩ := i_bitv bb.1 bb.2 (show y % h.length ≤ 64 by omega) true b2
            have evl : _ = (1 : Int) := evl
            have e := yes (by rw [hq0, b2])
            refine ⟨[Ans.o (Orc.b true), Ans.o (Orc.val (32 : Nat) (I (↑(x / h.length) : Int)) (H.mk [ints ((fil (apB (jw g h)) i0 N x).set x (↑(pbW (jw g h) x y) : Int))] [] [])), Ans.o (Orc.val (35 : Nat) (I (↑(y / h.length) : Int)) (H.mk [ints ((fil (apB (jw g h)) i0 N x).set x (↑(pbW (jw g h) x y) : Int))] [] [])), Ans.o (Orc.val (38 : Nat) (I (↑(x % h.length) : Int)) (H.mk [ints ((fil (apB (jw g h)) i0 N x).set x (↑(pbW (jw g h) x y) : Int))] [] [])), Ans.o (Orc.val (41 : Nat) (I (↑(y % h.length) : Int)) (H.mk [ints ((fil (apB (jw g h)) i0 N x).set x (↑(pbW (jw g h) x y) : Int))] [] [])), Ans.o (Orc.b true), Ans.o (Orc.b true), Ans.o (Orc.b false), Ans.o (Orc.val (67 : Nat) (AV.cptr (ints (List.drop (x % h.length) h))) (H.mk [ints ((fil (apB (jw g h)) i0 N x).set x (↑(pbW (jw g h) x y) : Int))] [] [])), Ans.o (Orc.val (68 : Nat) (I (h.getD (x % h.length) i0)) (H.mk [ints ((fil (apB (jw g h)) i0 N x).set x (↑(pbW (jw g h) x y) : Int))] [] [])), Ans.o (Orc.val (70 : Nat) (I (↑((at_ h (x % h.length)).toNat >>> (y % h.length)) : Int)) (H.mk [ints ((fil (apB (jw g h)) i0 N x).set x (↑(pbW (jw g h) x y) : Int))] [] [])), Ans.o (Orc.val (71 : Nat) (I (↑true.toNat : Int)) (H.mk [ints ((fil (apB (jw g h)) i0 N x).set x (↑(pbW (jw g h) x y) : Int))] [] [])), Ans.o Orc.dflt, Ans.o (Orc.val (77 : Nat) (AV.ptr (0 : Nat) x) (H.mk [ints ((fil (apB (jw g h)) i0 N x).set x (↑(pbW (jw g h) x y) : Int))] [] [])), Ans.o (Orc.val (78 : Nat) (I (((fil (apB (jw g h)) i0 N x).set x (↑(pbW (jw g h) x y) : Int)).getD x i0)) (H.mk [ints ((fil (apB (jw g h)) i0 N x).set x (↑(pbW (jw g h) x y) : Int))] [] [])), Ans.o (Orc.val (80 : Nat) (I (↑((2 : Nat) ^ y) : Int)) (H.mk [ints ((fil (apB (jw g h)) i0 N x).set x (↑(pbW (jw g h) x y) : Int))] [] [])), Ans.o (Orc.val (81 : Nat) (I (↑(pbW (jw g h) x y ||| (2 : Nat) ^ y) : Int)) (H.mk [ints ((fil (apB (jw g h)) i0 N x).set x (↑(pbW (jw g h) x y) : Int))] [] [])), Ans.o (Orc.val (82 : Nat) (AV.ptr (0 : Nat) x) (H.mk [ints ((fil (apB (jw g h)) i0 N x).set x (↑(pbW (jw g h) x y) : Int))] [] [])), Ans.o (Orc.val (9999 : Nat) (AV.tup []) (H.mk [ints (((fil (apB (jw g h)) i0 N x).set x (↑(pbW (jw g h) x y) : Int)).set x (↑(pbW (jw g h) x y ||| (2 : Nat) ^ y) : Int))] [] []))], fun u => of_eq ((↑y : Int) < (↑N : Int) ∧ aBin Tryd.prog BinOp.quo (3 : Nat) (I (↑x : Int)) (I (↑h.length : Int)) = some (I (↑(x / h.length) : Int)) ∧ aBin Tryd.prog BinOp.quo (3 : Nat) (I (↑y : Int)) (I (↑h.length : Int)) = some (I (↑(y / h.length) : Int)) ∧ aBin Tryd.prog BinOp.rem (3 : Nat) (I (↑x : Int)) (I (↑h.length : Int)) = some (I (↑(x % h.length) : Int)) ∧ aBin Tryd.prog BinOp.rem (3 : Nat) (I (↑y : Int)) (I (↑h.length : Int)) = some (I (↑(y % h.length) : Int)) ∧ (↑x : Int) ≠ (↑y : Int) ∧ (↑(x / h.length) : Int) = (↑(y / h.length) : Int) ∧ (↑(x % h.length) : Int) ≠ (↑(y % h.length) : Int) ∧ aIndexAddr Tryd.prog (22 : Nat) (AV.sl (ints h) h.length q) (I (↑(x % h.length) : Int)) = some (AV.cptr (ints (List.drop (x % h.length) h))) ∧ aLoad Tryd.prog (3 : Nat) (ints (List.drop (x % h.length) h)) = some (I (h.getD (x % h.length) i0)) ∧ aBin Tryd.prog BinOp.shr (3 : Nat) (I (h.getD (x % h.length) i0)) (I (↑(y % h.length) : Int)) = some (I (↑((at_ h (x % h.length)).toNat >>> (y % h.length)) : Int)) ∧ aBin Tryd.prog BinOp.and (3 : Nat) (I (↑((at_ h (x % h.length)).toNat >>> (y % h.length)) : Int)) (I (1 : Int)) = some (I (1 : Int)) ∧ aIndexAddr Tryd.prog (22 : Nat) (AV.msl (0 : Nat) (0 : Nat) N N (1 : Nat)) (I (↑x : Int)) = some (AV.ptr (0 : Nat) x) ∧ aLoad Tryd.prog (3 : Nat) (List.drop x (ints ((fil (apB (jw g h)) i0 N x).set x (↑(pbW (jw g h) x y) : Int)))) = some (I (((fil (apB (jw g h)) i0 N x).set x (↑(pbW (jw g h) x y) : Int)).getD x i0)) ∧ aBin Tryd.prog BinOp.shl (3 : Nat) (I (1 : Int)) (I (↑y : Int)) = some (I (↑((2 : Nat) ^ y) : Int)) ∧ aBin Tryd.prog BinOp.or (3 : Nat) (I (((fil (apB (jw g h)) i0 N x).set x (↑(pbW (jw g h) x y) : Int)).getD x i0)) (I (↑((2 : Nat) ^ y) : Int)) = some (I (↑(pbW (jw g h) x y ||| (2 : Nat) ^ y) : Int)) ∧ aIndexAddr Tryd.prog (22 : Nat) (AV.msl (0 : Nat) (0 : Nat) N N (1 : Nat)) (I (↑x : Int)) = some (AV.ptr (0 : Nat) x) ∧ aStore Tryd.prog H.nil.base (3 : Nat) (AV.ptr (0 : Nat) x) (I (↑(pbW (jw g h) x y ||| (2 : Nat) ^ y) : Int)) (H.mk [ints ((fil (apB (jw g h)) i0 N x).set x (↑(pbW (jw g h) x y) : Int))] [] []) = some (H.mk [ints (((fil (apB (jw g h)) i0 N x).set x (↑(pbW (jw g h) x y) : Int)).set x (↑(pbW (jw g h) x y ||| (2 : Nat) ^ y) : Int))] [] []) ∧ IntKind.i64.wrap ((↑y : Int) + (1 : Int)) = (↑y : Int) + (1 : Int) ∧ (86 : Nat) = (86 : Nat) ∧ y < N ∧ Keep (H.mk [ints (((fil (apB (jw g h)) i0 N x).set x (↑(pbW (jw g h) x y) : Int)).set x (↑(pbW (jw g h) x y ||| (2 : Nat) ^ y) : Int))] [] [] = H.mk [ints ((fil (apB (jw g h)) i0 N x).set x (↑(pbW (jw g h) x (y + (1 : Nat))) : Int))] [] [] ∧ [AV.sl (ints g) g.length r, AV.sl (ints h) h.length q, I (↑h.length : Int), AV.msl (0 : Nat) (0 : Nat) N N (1 : Nat), I (↑x : Int), I (↑N : Int), I (↑x : Int), I (↑N : Int), I ((↑y : Int) + (1 : Int))] = [AV.sl (ints g) g.length r, AV.sl (ints h) h.length q, I (↑h.length : Int), AV.msl (0 : Nat) (0 : Nat) N N (1 : Nat), I (↑x : Int), I (↑N : Int), I (↑x : Int), I (↑N : Int), I (↑(y + (1 : Nat)) : Int)])) (by kernel_rfl) ?_⟩
            refine And.intro (by first | with_reducible assumption | omega | assumption) ?_
            refine And.intro (by exact told_quo (by first | decide | omega) (by with_reducible assumption)) ?_
            refine And.intro (by exact told_quo (by first | decide | omega) (by with_reducible assumption)) ?_
            refine And.intro (by exact told_rem (by first | decide | omega) (by with_reducible assumption)) ?_
            refine And.intro (by exact told_rem (by first | decide | omega) (by with_reducible assumption)) ?_
            refine And.intro (by first | with_reducible assumption | omega | assumption) ?_
            refine And.intro (by first | with_reducible assumption | omega | assumption) ?_
            refine And.intro (by first | with_reducible assumption | omega | assumption) ?_
            refine And.intro (by first | exact ix_ints (by kernel_rfl) (by omega) (by assumption) | exact ix_ints (by kernel_rfl) (by omega) (rok_idx (by assumption) (by omega))) ?_
            refine And.intro (by first | exact ldm_ints (by kernel_rfl) (by kernel_rfl) hls | exact ld_ints (by kernel_rfl) (by kernel_rfl) (by omega)) ?_
            refine And.intro (by first | exact told_shr (by first | exact Int.natCast_nonneg _ | omega) (by with_reducible assumption) | exact told_shr (by omega) rfl) ?_
            refine And.intro (by exact told_and (by with_reducible assumption)) ?_
            refine And.intro (by first | exact ixm0 (by kernel_rfl) (by omega) | exact ixa0 (by kernel_rfl) (by omega)) ?_
            refine And.intro (by first | exact ldm_ints (by kernel_rfl) (by kernel_rfl) hls | exact ld_ints (by kernel_rfl) (by kernel_rfl) (by omega)) ?_
            refine And.intro (by first | exact told_shl (by first | exact Int.natCast_nonneg _ | omega) (by with_reducible assumption) | exact told_shl (by omega) rfl) ?_
            refine And.intro (by exact told_or (by with_reducible assumption)) ?_
            refine And.intro (by first | exact ixm0 (by kernel_rfl) (by omega) | exact ixa0 (by kernel_rfl) (by omega)) ?_
            refine And.intro (by exact st_ints (by kernel_rfl) rfl hls) ?_
            refine And.intro (by exact wr _ (by omega) (by omega)) ?_
            refine And.intro (by first | with_reducible assumption | omega | assumption) ?_
            refine And.intro (by first | with_reducible assumption | omega | assumption) ?_
            exact ⟨by rw [List.set_set, e], rfl⟩
      · have a1' : ((x / h.length : Nat) : Int) ≠ ((y / h.length : Nat) : Int) := by omega
        rw [decide_eq_false a1, Bool.false_or] at hq0
        cases a2 : bi (at_ g (x / h.length)) (y / h.length)
        · obtain ⟨evk, evl⟩ := i_bitv ba.1 ba.2 (show y / h.length ≤ 64 by omega) false a2
          have evl : _ = (0 : Int) := evl
          have e := no (by rw [hq0, a2]; rfl)
          refine ⟨[Ans.o (Orc.b true), Ans.o (Orc.val (32 : Nat) (I (↑(x / h.length) : Int)) (H.mk [ints ((fil (apB (jw g h)) i0 N x).set x (↑(pbW (jw g h) x y) : Int))] [] [])), Ans.o (Orc.val (35 : Nat) (I (↑(y / h.length) : Int)) (H.mk [ints ((fil (apB (jw g h)) i0 N x).set x (↑(pbW (jw g h) x y) : Int))] [] [])), Ans.o (Orc.val (38 : Nat) (I (↑(x % h.length) : Int)) (H.mk [ints ((fil (apB (jw g h)) i0 N x).set x (↑(pbW (jw g h) x y) : Int))] [] [])), Ans.o (Orc.val (41 : Nat) (I (↑(y % h.length) : Int)) (H.mk [ints ((fil (apB (jw g h)) i0 N x).set x (↑(pbW (jw g h) x y) : Int))] [] [])), Ans.o (Orc.b true), Ans.o (Orc.b false), Ans.o (Orc.val (52 : Nat) (AV.cptr (ints (List.drop (x / h.length) g))) (H.mk [ints ((fil (apB (jw g h)) i0 N x).set x (↑(pbW (jw g h) x y) : Int))] [] [])), Ans.o (Orc.val (53 : Nat) (I (g.getD (x / h.length) i0)) (H.mk [ints ((fil (apB (jw g h)) i0 N x).set x (↑(pbW (jw g h) x y) : Int))] [] [])), Ans.o (Orc.val (55 : Nat) (I (↑((at_ g (x / h.length)).toNat >>> (y / h.length)) : Int)) (H.mk [ints ((fil (apB (jw g h)) i0 N x).set x (↑(pbW (jw g h) x y) : Int))] [] [])), Ans.o (Orc.val (56 : Nat) (I (↑false.toNat : Int)) (H.mk [ints ((fil (apB (jw g h)) i0 N x).set x (↑(pbW (jw g h) x y) : Int))] [] [])), Ans.o Orc.dflt], fun u => of_eq ((↑y : Int) < (↑N : Int) ∧ aBin Tryd.prog BinOp.quo (3 : Nat) (I (↑x : Int)) (I (↑h.length : Int)) = some (I (↑(x / h.length) : Int)) ∧ aBin Tryd.prog BinOp.quo (3 : Nat) (I (↑y : Int)) (I (↑h.length : Int)) = some (I (↑(y / h.length) : Int)) ∧ aBin Tryd.prog BinOp.rem (3 : Nat) (I (↑x : Int)) (I (↑h.length : Int)) = some (I (↑(x % h.length) : Int)) ∧ aBin Tryd.prog BinOp.rem (3 : Nat) (I (↑y : Int)) (I (↑h.length : Int)) = some (I (↑(y % h.length) : Int)) ∧ (↑x : Int) ≠ (↑y : Int) ∧ (↑(x / h.length) : Int) ≠ (↑(y / h.length) : Int) ∧ aIndexAddr Tryd.prog (22 : Nat) (AV.sl (ints g) g.length r) (I (↑(x / h.length) : Int)) = some (AV.cptr (ints (List.drop (x / h.length) g))) ∧ aLoad Tryd.prog (3 : Nat) (ints (List.drop (x / h.length) g)) = some (I (g.getD (x / h.length) i0)) ∧ aBin Tryd.prog BinOp.shr (3 : Nat) (I (g.getD (x / h.length) i0)) (I (↑(y / h.length) : Int)) = some (I (↑((at_ g (x / h.length)).toNat >>> (y / h.length)) : Int)) ∧ aBin Tryd.prog BinOp.and (3 : Nat) (I (↑((at_ g (x / h.length)).toNat >>> (y / h.length)) : Int)) (I (1 : Int)) = some (I (0 : Int)) ∧ IntKind.i64.wrap ((↑y : Int) + (1 : Int)) = (↑y : Int) + (1 : Int) ∧ (86 : Nat) = (86 : Nat) ∧ y < N ∧ Keep (H.mk [ints ((fil (apB (jw g h)) i0 N x).set x (↑(pbW (jw g h) x y) : Int))] [] [] = H.mk [ints ((fil (apB (jw g h)) i0 N x).set x (↑(pbW (jw g h) x (y + (1 : Nat))) : Int))] [] [] ∧ [AV.sl (ints g) g.length r, AV.sl (ints h) h.length q, I (↑h.length : Int), AV.msl (0 : Nat) (0 : Nat) N N (1 : Nat), I (↑x : Int), I (↑N : Int), I (↑x : Int), I (↑N : Int), I ((↑y : Int) + (1 : Int))] = [AV.sl (ints g) g.length r, AV.sl (ints h) h.length q, I (↑h.length : Int), AV.msl (0 : Nat) (0 : Nat) N N (1 : Nat), I (↑x : Int), I (↑N : Int), I (↑x : Int), I (↑N : Int), I (↑(y + (1 : Nat)) : Int)])) (by kernel_rfl) ?_⟩
          refine And.intro (by first | with_reducible assumption | omega | assumption) ?_
          refine And.intro (by exact told_quo (by first | decide | omega) (by with_reducible assumption)) ?_
          refine And.intro (by exact told_quo (by first | decide | omega) (by with_reducible assumption)) ?_
          refine And.intro (by exact told_rem (by first | decide | omega) (by with_reducible assumption)) ?_
          refine And.intro (by exact told_rem (by first | decide | omega) (by with_reducible assumption)) ?_
          refine And.intro (by first | with_reducible assumption | omega | assumption) ?_
          refine And.intro (by first | with_reducible assumption | omega | assumption) ?_
          refine And.intro (by first | exact ix_ints (by kernel_rfl) (by omega) (by assumption) | exact ix_ints (by kernel_rfl) (by omega) (rok_idx (by assumption) (by omega))) ?_
          refine And.intro (by first | exact ldm_ints (by kernel_rfl) (by kernel_rfl) hls | exact ld_ints (by kernel_rfl) (by kernel_rfl) (by omega)) ?_
          refine And.intro (by first | exact told_shr (by first | exact Int.natCast_nonneg _ | omega) (by with_reducible assumption) | exact told_shr (by omega) rfl) ?_
          refine And.intro (by exact told_and (by with_reducible assumption)) ?_
          refine And.intro (by exact wr _ (by omega) (by omega)) ?_
          refine And.intro (by first | with_reducible assumption | omega | assumption) ?_
          refine And.intro (by first | with_reducible assumption | omega | assumption) ?_
          exact ⟨by rw [e], rfl⟩
        · obtain ⟨evk, evl⟩ := i_bitv ba.1 ba.2 (show y / h.length ≤ 64 by omega) true a2
          have evl : _ = (1 : Int) := evl
          rw [a2, Bool.true_and] at hq0
          by_cases b1 : x % h.length = y % h.length
          · have b1' : ((x % h.length : Nat) : Int) = ((y % h.length : Nat) : Int) := by omega
            have e := yes (by rw [hq0, decide_eq_true b1]; rfl)
            refine ⟨[Ans.o (Orc.b true), Ans.o (Orc.val (32 : Nat) (I (↑(x / h.length) : Int)) (H.mk [ints ((fil (apB (jw g h)) i0 N x).set x (↑(pbW (jw g h) x y) : Int))] [] [])), Ans.o (Orc.val (35 : Nat) (I (↑(y / h.length) : Int)) (H.mk [ints ((fil (apB (jw g h)) i0 N x).set x (↑(pbW (jw g h) x y) : Int))] [] [])), Ans.o (Orc.val (38 : Nat) (I (↑(x % h.length) : Int)) (H.mk [ints ((fil (apB (jw g h)) i0 N x).set x (↑(pbW (jw g h) x y) : Int))] [] [])), Ans.o (Orc.val (41 : Nat) (I (↑(y % h.length) : Int)) (H.mk [ints ((fil (apB (jw g h)) i0 N x).set x (↑(pbW (jw g h) x y) : Int))] [] [])), Ans.o (Orc.b true), Ans.o (Orc.b false), Ans.o (Orc.val (52 : Nat) (AV.cptr (ints (List.drop (x / h.length) g))) (H.mk [ints ((fil (apB (jw g h)) i0 N x).set x (↑(pbW (jw g h) x y) : Int))] [] [])), Ans.o (Orc.val (53 : Nat) (I (g.getD (x / h.length) i0)) (H.mk [ints ((fil (apB (jw g h)) i0 N x).set x (↑(pbW (jw g h) x y) : Int))] [] [])), Ans.o (Orc.val (55 : Nat) (I (↑((at_ g (x / h.length)).toNat >>> (y / h.length)) : Int)) (H.mk [ints ((fil (apB (jw g h)) i0 N x).set x (↑(pbW (jw g h) x y) : Int))] [] [])), Ans.o (Orc.val (56 : Nat) (I (↑true.toNat : Int)) (H.mk [ints ((fil (apB (jw g h)) i0 N x).set x (↑(pbW (jw g h) x y) : Int))] [] [])), Ans.o Orc.dflt, Ans.o (Orc.b true), Ans.o (Orc.val (77 : Nat) (AV.ptr (0 : Nat) x) (H.mk [ints ((fil (apB (jw g h)) i0 N x).set x (↑(pbW (jw g h) x y) : Int))] [] [])), Ans.o (Orc.val (78 : Nat) (I (((fil (apB (jw g h)) i0 N x).set x (↑(pbW (jw g h) x y) : Int)).getD x i0)) (H.mk [ints ((fil (apB (jw g h)) i0 N x).set x (↑(pbW (jw g h) x y) : Int))] [] [])), Ans.o (Orc.val (80 : Nat) (I (↑((2 : Nat) ^ y) : Int)) (H.mk [ints ((fil (apB (jw g h)) i0 N x).set x (↑(pbW (jw g h) x y) : Int))] [] [])), Ans.o (Orc.val (81 : Nat) (I (↑(pbW (jw g h) x y ||| (2 : Nat) ^ y) : Int)) (H.mk [ints ((fil (apB (jw g h)) i0 N x).set x (↑(pbW (jw g h) x y) : Int))] [] [])), Ans.o (Orc.val (82 : Nat) (AV.ptr (0 : Nat) x) (H.mk [ints ((fil (apB (jw g h)) i0 N x).set x (↑(pbW (jw g h) x y) : Int))] [] [])), Ans.o (Orc.val (9999 : Nat) (AV.tup []) (H.mk [ints (((fil (apB (jw g h)) i0 N x).set x (↑(pbW (jw g h) x y) : Int)).set x (↑(pbW (jw g h) x y ||| (2 : Nat) ^ y) : Int))] [] []))], fun u => of_eq ((↑y : Int) < (↑N : Int) ∧ aBin Tryd.prog BinOp.quo (3 : Nat) (I (↑x : Int)) (I (↑h.length : Int)) = some (I (↑(x / h.length) : Int)) ∧ aBin Tryd.prog BinOp.quo (3 : Nat) (I (↑y : Int)) (I (↑h.length : Int)) = some (I (↑(y / h.length) : Int)) ∧ aBin Tryd.prog BinOp.rem (3 : Nat) (I (↑x : Int)) (I (↑h.length : Int)) = some (I (↑(x % h.length) : Int)) ∧ aBin Tryd.prog BinOp.rem (3 : Nat) (I (↑y : Int)) (I (↑h.length : Int)) = some (I (↑(y % h.length) : Int)) ∧ (↑x : Int) ≠ (↑y : Int) ∧ (↑(x / h.length) : Int) ≠ (↑(y / h.length) : Int) ∧ aIndexAddr Tryd.prog (22 : Nat) (AV.sl (ints g) g.length r) (I (↑(x / h.length) : Int)) = some (AV.cptr (ints (List.drop (x / h.length) g))) ∧ aLoad Tryd.prog (3 : Nat) (ints (List.drop (x / h.length) g)) = some (I (g.getD (x / h.length) i0)) ∧ aBin Tryd.prog BinOp.shr (3 : Nat) (I (g.getD (x / h.length) i0)) (I (↑(y / h.length) : Int)) = some (I (↑((at_ g (x / h.length)).toNat >>> (y / h.length)) : Int)) ∧ aBin Tryd.prog BinOp.and (3 : Nat) (I (↑((at_ g (x / h.length)).toNat >>> (y / h.length)) : Int)) (I (1 : Int)) = some (I (1 : Int)) ∧ (↑(x % h.length) : Int) = (↑(y % h.length) : Int) ∧ aIndexAddr Tryd.prog (22 : Nat) (AV.msl (0 : Nat) (0 : Nat) N N (1 : Nat)) (I (↑x : Int)) = some (AV.ptr (0 : Nat) x) ∧ aLoad Tryd.prog (3 : Nat) (List.drop x (ints ((fil (apB (jw g h)) i0 N x).set x (↑(pbW (jw g h) x y) : Int)))) = some (I (((fil (apB (jw g h)) i0 N x).set x (↑(pbW (jw g h) x y) : Int)).getD x i0)) ∧ aBin Tryd.prog BinOp.shl (3 : Nat) (I (1 : Int)) (I (↑y : Int)) = some (I (↑((2 : Nat) ^ y) : Int)) ∧ aBin Tryd.prog BinOp.or (3 : Nat) (I (((fil (apB (jw g h)) i0 N x).set x (↑(pbW (jw g h) x y) : Int)).getD x i0)) (I (↑((2 : Nat) ^ y) : Int)) = some (I (↑(pbW (jw g h) x y ||| (2 : Nat) ^ y) : Int)) ∧ aIndexAddr Tryd.prog (22 : Nat) (AV.msl (0 : Nat) (0 : Nat) N N (1 : Nat)) (I (↑x : Int)) = some (AV.ptr (0 : Nat) x) ∧ aStore Tryd.prog H.nil.base (3 : Nat) (AV.ptr (0 : Nat) x) (I (↑(pbW (jw g h) x y ||| (2 : Nat) ^ y) : Int)) (H.mk [ints ((fil (apB (jw g h)) i0 N x).set x (↑(pbW (jw g h) x y) : Int))] [] []) = some (H.mk [ints (((fil (apB (jw g h)) i0 N x).set x (↑(pbW (jw g h) x y) : Int)).set x (↑(pbW (jw g h) x y ||| (2 : Nat) ^ y) : Int))] [] []) ∧ IntKind.i64.wrap ((↑y : Int) + (1 : Int)) = (↑y : Int) + (1 : Int) ∧ (86 : Nat) = (86 : Nat) ∧ y < N ∧ Keep (H.mk [ints (((fil (apB (jw g h)) i0 N x).set x (↑(pbW (jw g h) x y) : Int)).set x (↑(pbW (jw g h) x y ||| (2 : Nat) ^ y) : Int))] [] [] = H.mk [ints ((fil (apB (jw g h)) i0 N x).set x (↑(pbW (jw g h) x (y + (1 : Nat))) : Int))] [] [] ∧ [AV.sl (ints g) g.length r, AV.sl (ints h) h.length q, I (↑h.length : Int), AV.msl (0 : Nat) (0 : Nat) N N (1 : Nat), I (↑x : Int), I (↑N : Int), I (↑x : Int), I (↑N : Int), I ((↑y : Int) + (1 : Int))] = [AV.sl (ints g) g.length r, AV.sl (ints h) h.length q, I (↑h.length : Int), AV.msl (0 : Nat) (0 : Nat) N N (1 : Nat), I (↑x : Int), I (↑N : Int), I (↑x : Int), I (↑N : Int), I (↑(y + (1 : Nat)) : Int)])) (by kernel_rfl) ?_⟩
            refine And.intro (by first | with_reducible assumption | omega | assumption) ?_
            refine And.intro (by exact told_quo (by first | decide | omega) (by with_reducible assumption)) ?_
            refine And.intro (by exact told_quo (by first | decide | omega) (by with_reducible assumption)) ?_
            refine And.intro (by exact told_rem (by first | decide | omega) (by with_reducible assumption)) ?_
            refine And.intro (by exact told_rem (by first | decide | omega) (by with_reducible assumption)) ?_
            refine And.intro (by first | with_reducible assumption | omega | assumption) ?_
            refine And.intro (by first | with_reducible assumption | omega | assumption) ?_
            refine And.intro (by first | exact ix_ints (by kernel_rfl) (by omega) (by assumption) | exact ix_ints (by kernel_rfl) (by omega) (rok_idx (by assumption) (by omega))) ?_
            refine And.intro (by first | exact ldm_ints (by kernel_rfl) (by kernel_rfl) hls | exact ld_ints (by kernel_rfl) (by kernel_rfl) (by omega)) ?_
            refine And.intro (by first | exact told_shr (by first | exact Int.natCast_nonneg _ | omega) (by with_reducible assumption) | exact told_shr (by omega) rfl) ?_
            refine And.intro (by exact told_and (by with_reducible assumption)) ?_
            refine And.intro (by first | with_reducible assumption | omega | assumption) ?_
            refine And.intro (by first | exact ixm0 (by kernel_rfl) (by omega) | exact ixa0 (by kernel_rfl) (by omega)) ?_
            refine And.intro (by first | exact ldm_ints (by kernel_rfl) (by kernel_rfl) hls | exact ld_ints (by kernel_rfl) (by kernel_rfl) (by omega)) ?_
            refine And.intro (by first | exact told_shl (by first | exact Int.natCast_nonneg _ | omega) (by with_reducible assumption) | exact told_shl (by omega) rfl) ?_
            refine And.intro (by exact told_or (by with_reducible assumption)) ?_
            refine And.intro (by first | exact ixm0 (by kernel_rfl) (by omega) | exact ixa0 (by kernel_rfl) (by omega)) ?_
            refine And.intro (by exact st_ints (by kernel_rfl) rfl hls) ?_
            refine And.intro (by exact wr _ (by omega) (by omega)) ?_
            refine And.intro (by first | with_reducible assumption | omega | assumption) ?_
            refine And.intro (by first | with_reducible assumption | omega | assumption) ?_
            exact ⟨by rw [List.set_set, e], rfl⟩
          · have b1' : ((x % h.length : Nat) : Int) ≠ ((y % h.length : Nat) : Int) := by omega
            rw [decide_eq_false b1, Bool.false_or] at hq0
            cases b2 : bi (at_ h (x % h.length)) (y % h.length)
            · obtain ⟨evm, evn⟩ := i_bitv bb.1 bb.2 (show y % h.length ≤ 64 by omega) false b2
              have evn : _ = (0 : Int) := evn
              have e := no (by rw [hq0, b2])
              refine ⟨[Ans.o (Orc.b true), Ans.o (Orc.val (32 : Nat) (I (↑(x / h.length) : Int)) (H.mk [ints ((fil (apB (jw g h)) i0 N x).set x (↑(pbW (jw g h) x y) : Int))] [] [])), Ans.o (Orc.val (35 : Nat) (I (↑(y / h.length) : Int)) (H.mk [ints ((fil (apB (jw g h)) i0 N x).set x (↑(pbW (jw g h) x y) : Int))] [] [])), Ans.o (Orc.val (38 : Nat) (I (↑(x % h.length) : Int)) (H.mk [ints ((fil (apB (jw g h)) i0 N x).set x (↑(pbW (jw g h) x y) : Int))] [] [])), Ans.o (Orc.val (41 : Nat) (I (↑(y % h.length) : Int)) (H.mk [ints ((fil (apB (jw g h)) i0 N x).set x (↑(pbW (jw g h) x y) : Int))] [] [])), Ans.o (Orc.b true), Ans.o (Orc.b false), Ans.o (Orc.val (52 : Nat) (AV.cptr (ints (List.drop (x / h.length) g))) (H.mk [ints ((fil (apB (jw g h)) i0 N x).set x (↑(pbW (jw g h) x y) : Int))] [] [])), Ans.o (Orc.val (53 : Nat) (I (g.getD (x / h.length) i0)) (H.mk [ints ((fil (apB (jw g h)) i0 N x).set x (↑(pbW (jw g h) x y) : Int))] [] [])), Ans.o (Orc.val (55 : Nat) (I (↑((at_ g (x / h.length)).toNat >>> (y / h.length)) : Int)) (H.mk [ints ((fil (apB (jw g h)) i0 N x).set x (↑(pbW (jw g h) x y) : Int))] [] [])), Ans.o (Orc.val (56 : Nat) (I (↑true.toNat : Int)) (H.mk [ints ((fil (apB (jw g h)) i0 N x).set x (↑(pbW (jw g h) x y) : Int))] [] [])), Ans.o Orc.dflt, Ans.o (Orc.b false), Ans.o (Orc.val (67 : Nat) (AV.cptr (ints (List.drop (x % h.length) h))) (H.mk [ints ((fil (apB (jw g h)) i0 N x).set x (↑(pbW (jw g h) x y) : Int))] [] [])), Ans.o (Orc.val (68 : Nat) (I (h.getD (x % h.length) i0)) (H.mk [ints ((fil (apB (jw g h)) i0 N x).set x (↑(pbW (jw g h) x y) : Int))] [] [])), Ans.o (Orc.val (70 : Nat) (I (↑((at_ h (x % h.length)).toNat >>> (y % h.length)) : Int)) (H.mk [ints ((fil (apB (jw g h)) i0 N x).set x (↑(pbW (jw g h) x y) : Int))] [] [])), Ans.o (Orc.val (71 : Nat) (I (↑false.toNat : Int)) (H.mk [ints ((fil (apB (jw g h)) i0 N x).set x (↑(pbW (jw g h) x y) : Int))] [] [])), Ans.o Orc.dflt], fun u => of_eq ((↑y : Int) < (↑N : Int) ∧ aBin Tryd.prog BinOp.quo (3 : Nat) (I (↑x : Int)) (I (↑h.length : Int)) = some (I (↑(x / h.length) : Int)) ∧ aBin Tryd.prog BinOp.quo (3 : Nat) (I (↑y : Int)) (I (↑h.length : Int)) = some (I (↑(y / h.length) : Int)) ∧ aBin Tryd.prog BinOp.rem (3 : Nat) (I (↑x : Int)) (I (↑h.length : Int)) = some (I (↑(x % h.length) : Int)) ∧ aBin Tryd.prog BinOp.rem (3 : Nat) (I (↑y : Int)) (I (↑h.length : Int)) = some (I (↑(y % h.length) : Int)) ∧ (↑x : Int) ≠ (↑y : Int) ∧ (↑(x / h.length) : Int) ≠ (↑(y / h.length) : Int) ∧ aIndexAddr Tryd.prog (22 : Nat) (AV.sl (ints g) g.length r) (I (↑(x / h.length) : Int)) = some (AV.cptr (ints (List.drop (x / h.length) g))) ∧ aLoad Tryd.prog (3 : Nat) (ints (List.drop (x / h.length) g)) = some (I (g.getD (x / h.length) i0)) ∧ aBin Tryd.prog BinOp.shr (3 : Nat) (I (g.getD (x / h.length) i0)) (I (↑(y / h.length) : Int)) = some (I (↑((at_ g (x / h.length)).toNat >>> (y / h.length)) : Int)) ∧ aBin Tryd.prog BinOp.and (3 : Nat) (I (↑((at_ g (x / h.length)).toNat >>> (y / h.length)) : Int)) (I (1 : Int)) = some (I (1 : Int)) ∧ (↑(x % h.length) : Int) ≠ (↑(y % h.length) : Int) ∧ aIndexAddr Tryd.prog (22 : Nat) (AV.sl (ints h) h.length q) (I (↑(x % h.length) : Int)) = some (AV.cptr (ints (List.drop (x % h.length) h))) ∧ aLoad Tryd.prog (3 : Nat) (ints (List.drop (x % h.length) h)) = some (I (h.getD (x % h.length) i0)) ∧ aBin Tryd.prog BinOp.shr (3 : Nat) (I (h.getD (x % h.length) i0)) (I (↑(y % h.length) : Int)) = some (I (↑((at_ h (x % h.length)).toNat >>> (y % h.length)) : Int)) ∧ aBin Tryd.prog BinOp.and (3 : Nat) (I (↑((at_ h (x % h.length)).toNat >>> (y % h.length)) : Int)) (I (1 : Int)) = some (I (0 : Int)) ∧ IntKind.i64.wrap ((↑y : Int) + (1 : Int)) = (↑y : Int) + (1 : Int) ∧ (86 : Nat) = (86 : Nat) ∧ y < N ∧ Keep (H.mk [ints ((fil (apB (jw g h)) i0 N x).set x (↑(pbW (jw g h) x y) : Int))] [] [] = H.mk [ints ((fil (apB (jw g h)) i0 N x).set x (↑(pbW (jw g h) x (y + (1 : Nat))) : Int))] [] [] ∧ [AV.sl (ints g) g.length r, AV.sl (ints h) h.length q, I (↑h.length : Int), AV.msl (0 : Nat) (0 : Nat) N N (1 : Nat), I (↑x : Int), I (↑N : Int), I (↑x : Int), I (↑N : Int), I ((↑y : Int) + (1 : Int))] = [AV.sl (ints g) g.length r, AV.sl (ints h) h.length q, I (↑h.length : Int), AV.msl (0 : Nat) (0 : Nat) N N (1 : Nat), I (↑x : Int), I (↑N : Int), I (↑x : Int), I (↑N : Int), I (↑(y + (1 : Nat)) : Int)])) (by kernel_rfl) ?_⟩
              refine And.intro (by first | with_reducible assumption | omega | assumption) ?_
              refine And.intro (by exact told_quo (by first | decide | omega) (by with_reducible assumption)) ?_
              refine And.intro (by exact told_quo (by first | decide | omega) (by with_reducible assumption)) ?_
              refine And.intro (by exact told_rem (by first | decide | omega) (by with_reducible assumption)) ?_
              refine And.intro (by exact told_rem (by first | decide | omega) (by with_reducible assumption)) ?_
              refine And.intro (by first | with_reducible assumption | omega | assumption) ?_
              refine And.intro (by first | with_reducible assumption | omega | assumption) ?_
              refine And.intro (by first | exact ix_ints (by kernel_rfl) (by omega) (by assumption) | exact ix_ints (by kernel_rfl) (by omega) (rok_idx (by assumption) (by omega))) ?_
              refine And.intro (by first | exact ldm_ints (by kernel_rfl) (by kernel_rfl) hls | exact ld_ints (by kernel_rfl) (by kernel_rfl) (by omega)) ?_
              refine And.intro (by first | exact told_shr (by first | exact Int.natCast_nonneg _ | omega) (by with_reducible assumption) | exact told_shr (by omega) rfl) ?_
              refine And.intro (by exact told_and (by with_reducible assumption)) ?_
              refine And.intro (by first | with_reducible assumption | omega | assumption) ?_
              refine And.intro (by first | exact ix_ints (by kernel_rfl) (by omega) (by assumption) | exact ix_ints (by kernel_rfl) (by omega) (rok_idx (by assumption) (by omega))) ?_
              refine And.intro (by first | exact ldm_ints (by kernel_rfl) (by kernel_rfl) hls | exact ld_ints (by kernel_rfl) (by kernel_rfl) (by omega)) ?_
              refine And.intro (by first | exact told_shr (by first | exact Int.natCast_nonneg _ | omega) (by with_reducible assumption) | exact told_shr (by omega) rfl) ?_
              refine And.intro (by exact told_and (by with_reducible assumption)) ?_
              refine And.intro (by exact wr _ (by omega) (by omega)) ?_
              refine And.intro (by first | with_reducible assumption | omega | assumption) ?_
              refine And.intro (by first | with_reducible assumption | omega | assumption) ?_
              exact ⟨by rw [e], rfl⟩
            · obtain ⟨evm, evn⟩ := i_bitv bb.1 bb.2 (show y % h.length ≤ 64 by omega) true b2
              have evn : _ = (1 : Int) := evn
              have e := yes (by rw [hq0, b2])
              refine ⟨[Ans.o (Orc.b true), Ans.o (Orc.val (32 : Nat) (I (↑(x / h.length) : Int)) (H.mk [ints ((fil (apB (jw g h)) i0 N x).set x (↑(pbW (jw g h) x y) : Int))] [] [])), Ans.o (Orc.val (35 : Nat) (I (↑(y / h.length) : Int)) (H.mk [ints ((fil (apB (jw g h)) i0 N x).set x (↑(pbW (jw g h) x y) : Int))] [] [])), Ans.o (Orc.val (38 : Nat) (I (↑(x % h.length) : Int)) (H.mk [ints ((fil (apB (jw g h)) i0 N x).set x (↑(pbW (jw g h) x y) : Int))] [] [])), Ans.o (Orc.val (41 : Nat) (I (↑(y % h.length) : Int)) (H.mk [ints ((fil (apB (jw g h)) i0 N x).set x (↑(pbW (jw g h) x y) : Int))] [] [])), Ans.o (Orc.b true), Ans.o (Orc.b false), Ans.o (Orc.val (52 : Nat) (AV.cptr (ints (List.drop (x / h.length) g))) (H.mk [ints ((fil (apB (jw g h)) i0 N x).set x (↑(pbW (jw g h) x y) : Int))] [] [])), Ans.o (Orc.val (53 : Nat) (I (g.getD (x / h.length) i0)) (H.mk [ints ((fil (apB (jw g h)) i0 N x).set x (↑(pbW (jw g h) x y) : Int))] [] [])), Ans.o (Orc.val (55 : Nat) (I (↑((at_ g (x / h.length)).toNat >>> (y / h.length)) : Int)) (H.mk [ints ((fil (apB (jw g h)) i0 N x).set x (↑(pbW (jw g h) x y) : Int))] [] [])), Ans.o (Orc.val (56 : Nat) (I (↑true.toNat : Int)) (H.mk [ints ((fil (apB (jw g h)) i0 N x).set x (↑(pbW (jw g h) x y) : Int))] [] [])), Ans.o Orc.dflt, Ans.o (Orc.b false), Ans.o (Orc.val (67 : Nat) (AV.cptr (ints (List.drop (x % h.length) h))) (H.mk [ints ((fil (apB (jw g h)) i0 N x).set x (↑(pbW (jw g h) x y) : Int))] [] [])), Ans.o (Orc.val (68 : Nat) (I (h.getD (x % h.length) i0)) (H.mk [ints ((fil (apB (jw g h)) i0 N x).set x (↑(pbW (jw g h) x y) : Int))] [] [])), Ans.o (Orc.val (70 : Nat) (I (↑((at_ h (x % h.length)).toNat >>> (y % h.length)) : Int)) (H.mk [ints ((fil (apB (jw g h)) i0 N x).set x (↑(pbW (jw g h) x y) : Int))] [] [])), Ans.o (Orc.val (71 : Nat) (I (↑true.toNat : Int)) (H.mk [ints ((fil (apB (jw g h)) i0 N x).set x (↑(pbW (jw g h) x y) : Int))] [] [])), Ans.o Orc.dflt, Ans.o (Orc.val (77 : Nat) (AV.ptr (0 : Nat) x) (H.mk [ints ((fil (apB (jw g h)) i0 N x).set x (↑(pbW (jw g h) x y) : Int))] [] [])), Ans.o (Orc.val (78 : Nat) (I (((fil (apB (jw g h)) i0 N x).set x (↑(pbW (jw g h) x y) : Int)).getD x i0)) (H.mk [ints ((fil (apB (jw g h)) i0 N x).set x (↑(pbW (jw g h) x y) : Int))] [] [])), Ans.o (Orc.val (80 : Nat) (I (↑((2 : Nat) ^ y) : Int)) (H.mk [ints ((fil (apB (jw g h)) i0 N x).set x (↑(pbW (jw g h) x y) : Int))] [] [])), Ans.o (Orc.val (81 : Nat) (I (↑(pbW (jw g h) x y ||| (2 : Nat) ^ y) : Int)) (H.mk [ints ((fil (apB (jw g h)) i0 N x).set x (↑(pbW (jw g h) x y) : Int))] [] [])), Ans.o (Orc.val (82 : Nat) (AV.ptr (0 : Nat) x) (H.mk [ints ((fil (apB (jw g h)) i0 N x).set x (↑(pbW (jw g h) x y) : Int))] [] [])), Ans.o (Orc.val (9999 : Nat) (AV.tup []) (H.mk [ints (((fil (apB (jw g h)) i0 N x).set x (↑(pbW (jw g h) x y) : Int)).set x (↑(pbW (jw g h) x y ||| (2 : Nat) ^ y) : Int))] [] []))], fun u => of_eq ((↑y : Int) < (↑N : Int) ∧ aBin Tryd.prog BinOp.quo (3 : Nat) (I (↑x : Int)) (I (↑h.length : Int)) = some (I (↑(x / h.length) : Int)) ∧ aBin Tryd.prog BinOp.quo (3 : Nat) (I (↑y : Int)) (I (↑h.length : Int)) = some (I (↑(y / h.length) : Int)) ∧ aBin Tryd.prog BinOp.rem (3 : Nat) (I (↑x : Int)) (I (↑h.length : Int)) = some (I (↑(x % h.length) : Int)) ∧ aBin Tryd.prog BinOp.rem (3 : Nat) (I (↑y : Int)) (I (↑h.length : Int)) = some (I (↑(y % h.length) : Int)) ∧ (↑x : Int) ≠ (↑y : Int) ∧ (↑(x / h.length) : Int) ≠ (↑(y / h.length) : Int) ∧ aIndexAddr Tryd.prog (22 : Nat) (AV.sl (ints g) g.length r) (I (↑(x / h.length) : Int)) = some (AV.cptr (ints (List.drop (x / h.length) g))) ∧ aLoad Tryd.prog (3 : Nat) (ints (List.drop (x / h.length) g)) = some (I (g.getD (x / h.length) i0)) ∧ aBin Tryd.prog BinOp.shr (3 : Nat) (I (g.getD (x / h.length) i0)) (I (↑(y / h.length) : Int)) = some (I (↑((at_ g (x / h.length)).toNat >>> (y / h.length)) : Int)) ∧ aBin Tryd.prog BinOp.and (3 : Nat) (I (↑((at_ g (x / h.length)).toNat >>> (y / h.length)) : Int)) (I (1 : Int)) = some (I (1 : Int)) ∧ (↑(x % h.length) : Int) ≠ (↑(y % h.length) : Int) ∧ aIndexAddr Tryd.prog (22 : Nat) (AV.sl (ints h) h.length q) (I (↑(x % h.length) : Int)) = some (AV.cptr (ints (List.drop (x % h.length) h))) ∧ aLoad Tryd.prog (3 : Nat) (ints (List.drop (x % h.length) h)) = some (I (h.getD (x % h.length) i0)) ∧ aBin Tryd.prog BinOp.shr (3 : Nat) (I (h.getD (x % h.length) i0)) (I (↑(y % h.length) : Int)) = some (I (↑((at_ h (x % h.length)).toNat >>> (y % h.length)) : Int)) ∧ aBin Tryd.prog BinOp.and (3 : Nat) (I (↑((at_ h (x % h.length)).toNat >>> (y % h.length)) : Int)) (I (1 : Int)) = some (I (1 : Int)) ∧ aIndexAddr Tryd.prog (22 : Nat) (AV.msl (0 : Nat) (0 : Nat) N N (1 : Nat)) (I (↑x : Int)) = some (AV.ptr (0 : Nat) x) ∧ aLoad Tryd.prog (3 : Nat) (List.drop x (ints ((fil (apB (jw g h)) i0 N x).set x (↑(pbW (jw g h) x y) : Int)))) = some (I (((fil (apB (jw g h)) i0 N x).set x (↑(pbW (jw g h) x y) : Int)).getD x i0)) ∧ aBin Tryd.prog BinOp.shl (3 : Nat) (I (1 : Int)) (I (↑y : Int)) = some (I (↑((2 : Nat) ^ y) : Int)) ∧ aBin Tryd.prog BinOp.or (3 : Nat) (I (((fil (apB (jw g h)) i0 N x).set x (↑(pbW (jw g h) x y) : Int)).getD x i0)) (I (↑((2 : Nat) ^ y) : Int)) = some (I (↑(pbW (jw g h) x y ||| (2 : Nat) ^ y) : Int)) ∧ aIndexAddr Tryd.prog (22 : Nat) (AV.msl (0 : Nat) (0 : Nat) N N (1 : Nat)) (I (↑x : Int)) = some (AV.ptr (0 : Nat) x) ∧ aStore Tryd.prog H.nil.base (3 : Nat) (AV.ptr (0 : Nat) x) (I (↑(pbW (jw g h) x y ||| (2 : Nat) ^ y) : Int)) (H.mk [ints ((fil (apB (jw g h)) i0 N x).set x (↑(pbW (jw g h) x y) : Int))] [] []) = some (H.mk [ints (((fil (apB (jw g h)) i0 N x).set x (↑(pbW (jw g h) x y) : Int)).set x (↑(pbW (jw g h) x y ||| (2 : Nat) ^ y) : Int))] [] []) ∧ IntKind.i64.wrap ((↑y : Int) + (1 : Int)) = (↑y : Int) + (1 : Int) ∧ (86 : Nat) = (86 : Nat) ∧ y < N ∧ Keep (H.mk [ints (((fil (apB (jw g h)) i0 N x).set x (↑(pbW (jw g h) x y) : Int)).set x (↑(pbW (jw g h) x y ||| (2 : Nat) ^ y) : Int))] [] [] = H.mk [ints ((fil (apB (jw g h)) i0 N x).set x (↑(pbW (jw g h) x (y + (1 : Nat))) : Int))] [] [] ∧ [AV.sl (ints g) g.length r, AV.sl (ints h) h.length q, I (↑h.length : Int), AV.msl (0 : Nat) (0 : Nat) N N (1 : Nat), I (↑x : Int), I (↑N : Int), I (↑x : Int), I (↑N : Int), I ((↑y : Int) + (1 : Int))] = [AV.sl (ints g) g.length r, AV.sl (ints h) h.length q, I (↑h.length : Int), AV.msl (0 : Nat) (0 : Nat) N N (1 : Nat), I (↑x : Int), I (↑N : Int), I (↑x : Int), I (↑N : Int), I (↑(y + (1 : Nat)) : Int)])) (by kernel_rfl) ?_⟩
              refine And.intro (by first | with_reducible assumption | omega | assumption) ?_
              refine And.intro (by exact told_quo (by first | decide | omega) (by with_reducible assumption)) ?_
              refine And.intro (by exact told_quo (by first | decide | omega) (by with_reducible assumption)) ?_
              refine And.intro (by exact told_rem (by first | decide | omega) (by with_reducible assumption)) ?_
              refine And.intro (by exact told_rem (by first | decide | omega) (by with_reducible assumption)) ?_
              refine And.intro (by first | with_reducible assumption | omega | assumption) ?_
              refine And.intro (by first | with_reducible assumption | omega | assumption) ?_
              refine And.intro (by first | exact ix_ints (by kernel_rfl) (by omega) (by assumption) | exact ix_ints (by kernel_rfl) (by omega) (rok_idx (by assumption) (by omega))) ?_
              refine And.intro (by first | exact ldm_ints (by kernel_rfl) (by kernel_rfl) hls | exact ld_ints (by kernel_rfl) (by kernel_rfl) (by omega)) ?_
              refine And.intro (by first | exact told_shr (by first | exact Int.natCast_nonneg _ | omega) (by with_reducible assumption) | exact told_shr (by omega) rfl) ?_
              refine And.intro (by exact told_and (by with_reducible assumption)) ?_
              refine And.intro (by first | with_reducible assumption | omega | assumption) ?_
              refine And.intro (by first | exact ix_ints (by kernel_rfl) (by omega) (by assumption) | exact ix_ints (by kernel_rfl) (by omega) (rok_idx (by assumption) (by omega))) ?_
              refine And.intro (by first | exact ldm_ints (by kernel_rfl) (by kernel_rfl) hls | exact ld_ints (by kernel_rfl) (by kernel_rfl) (by omega)) ?_
              refine And.intro (by first | exact told_shr (by first | exact Int.natCast_nonneg _ | omega) (by with_reducible assumption) | exact told_shr (by omega) rfl) ?_
              refine And.intro (by exact told_and (by with_reducible assumption)) ?_
              refine And.intro (by first | exact ixm0 (by kernel_rfl) (by omega) | exact ixa0 (by kernel_rfl) (by omega)) ?_
              refine And.intro (by first | exact ldm_ints (by kernel_rfl) (by kernel_rfl) hls | exact ld_ints (by kernel_rfl) (by kernel_rfl) (by omega)) ?_
              refine And.intro (by first | exact told_shl (by first | exact Int.natCast_nonneg _ | omega) (by with_reducible assumption) | exact told_shl (by omega) rfl) ?_
              refine And.intro (by exact told_or (by with_reducible assumption)) ?_
              refine And.intro (by first | exact ixm0 (by kernel_rfl) (by omega) | exact ixa0 (by kernel_rfl) (by omega)) ?_
              refine And.intro (by exact st_ints (by kernel_rfl) rfl hls) ?_
              refine And.intro (by exact wr _ (by omega) (by omega)) ?_
              refine And.intro (by first | with_reducible assumption | omega | assumption) ?_
              refine And.intro (by first | with_reducible assumption | omega | assumption) ?_
              exact ⟨by rw [List.set_set, e], rfl⟩
  · have hz : (N : Int) ≤ y := by omega
    have hy' : y = N := by omega
    subst hy'
    have hgd := prV_gd (nrV_gd hg.1) (nrV_gd hh.1) (by rw [nrV_len, nrV_len]; omega)
    have e1 := pb_n (jw g h) hx64 (show y ≤ 62 by omega) (by
      have hl2 : (jw g h).length = y := by rw [prV_len, nrV_len, nrV_len]; exact hN
      have := hgd.2.1 x (by rw [hl2]; exact hx)
      rw [hl2] at this; exact this)
    have e := fil_set (apB (jw g h)) i0 hx
    simp only [jb]
    rw [e1, e]
    refine ⟨[Ans.o (Orc.b false)], fun u => of_eq ((↑y : Int) ≤ (↑y : Int) ∧ (86 : Nat) = (86 : Nat) ∧ hits [Out.mk Unit (AX.exit (2 : Nat)) [(0 : Nat), (1 : Nat), (5 : Nat), (6 : Nat), (21 : Nat), (22 : Nat)] (fun x => True) (fun x_1 => [ls g r, ls h q, I (↑h.length : Int), AV.msl (0 : Nat) (0 : Nat) y y (1 : Nat), I (↑y : Int), I (↑x : Int)]) (fun x_1 => H.mk [ints (fil (apB (jw g h)) i0 y (x + (1 : Nat)))] [] []) fun x => []] (AX.exit (2 : Nat)) [AV.sl (ints g) g.length r, AV.sl (ints h) h.length q, u (2 : Nat), u (3 : Nat), u (4 : Nat), I (↑h.length : Int), AV.msl (0 : Nat) (0 : Nat) y y (1 : Nat), I (↑x : Int), u (8 : Nat), u (9 : Nat), u (10 : Nat), u (11 : Nat), u (12 : Nat), u (13 : Nat), u (14 : Nat), u (15 : Nat), u (16 : Nat), u (17 : Nat), u (18 : Nat), u (19 : Nat), u (20 : Nat), I (↑y : Int), I (↑x : Int), u (23 : Nat), u (24 : Nat), u (25 : Nat), I (↑y : Int), I (↑y : Int), AV.bool false, u (29 : Nat), u (30 : Nat), u (31 : Nat), u (32 : Nat), u (33 : Nat), u (34 : Nat), u (35 : Nat), u (36 : Nat), u (37 : Nat), u (38 : Nat), u (39 : Nat), u (40 : Nat), u (41 : Nat), u (42 : Nat), u (43 : Nat), u (44 : Nat), u (45 : Nat), u (46 : Nat), u (47 : Nat), u (48 : Nat), u (49 : Nat), u (50 : Nat), u (51 : Nat), u (52 : Nat), u (53 : Nat), u (54 : Nat), u (55 : Nat), u (56 : Nat), u (57 : Nat), u (58 : Nat), u (59 : Nat), u (60 : Nat), u (61 : Nat), u (62 : Nat), u (63 : Nat), u (64 : Nat), u (65 : Nat), u (66 : Nat), u (67 : Nat), u (68 : Nat), u (69 : Nat), u (70 : Nat), u (71 : Nat), u (72 : Nat), u (73 : Nat), u (74 : Nat), u (75 : Nat), u (76 : Nat), u (77 : Nat), u (78 : Nat), u (79 : Nat), u (80 : Nat), u (81 : Nat), u (82 : Nat), u (83 : Nat), u (84 : Nat), u (85 : Nat)] (H.mk [ints (fil (apB (jw g h)) i0 y (x + (1 : Nat)))] [] [])) (by kernel_rfl) ?_⟩
    refine And.intro (by first | with_reducible assumption | omega | assumption) ?_
    refine And.intro (by first | with_reducible assumption | omega | assumption) ?_
    exact .inl ⟨(), trivial, rfl, rfl, rfl⟩
end Go.Proofs.Sur
