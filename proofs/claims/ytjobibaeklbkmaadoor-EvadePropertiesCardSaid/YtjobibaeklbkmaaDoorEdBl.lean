/- Layer 8: Spread by the reference. -/
import Derived.Test.YtjobibaeklbkmaaDoorEdBk
import Derived.Test.YtjobibaeklbkmaaDoorEdZ
import Derived.KernelRfl
set_option linter.unusedSimpArgs false
set_option linter.unusedVariables false
set_option linter.unnecessarySimpa false
set_option maxHeartbeats 4000000
set_option maxRecDepth 100000
namespace Go.Proofs.Evd
open Go Go.VM
open Go.Proofs.Sur (W w_wrap w_nat w_inj w_eq0 w_and w_or w_andn w_shl w_shr neg_nat sub_nat tz tz_ok cl bits_cons bits_0 bits_len andn andn_bit andn_le i_wrap i_and i_or i_andn i_shl i_shr bit_01)

theorem app_intsT {P : Program} {t : TypeId} (hT : appT P t = true) {l : List Int} {x : Int} {ts : List Nat} {n : Nat} (ht : ts.length = n) (hn : l.length ≤ 1000000000) :
    aAppend P t t (.sl (ints l) l.length (rm n l)) (.sl [I x] 1 .full) ⟨[], ts ++ tk l, []⟩ = some (.sl (ints (l ++ [x])) (l ++ [x]).length (rm n (l ++ [x])), ⟨[], ts ++ tk (l ++ [x]), []⟩) := by
  obtain ⟨e, i, z, he, hi, hz, h1, h2, h3⟩ := appT_of hT
  have hb : (l.length + 1) * i.bytes ≤ 2 ^ 47 := Nat.le_trans (Nat.mul_le_mul (Nat.succ_le_succ hn) h2) (by decide)
  have hm : l.length + 1 ≤ maxLen := Nat.le_trans (Nat.succ_le_succ hn) (by decide)
  subst ht
  cases l with
  | nil =>
    have hb' : i.bytes ≤ 2 ^ 47 := Nat.le_trans h2 (by decide)
    simp [aAppend, he, hi, hz, h1, h3, slCells, hb', rm, tk, ints, AV.one]
    decide
  | cons y l =>
    have hb2 : (l.length + 1 + 1) * i.bytes ≤ 2 ^ 47 := hb
    have hm2 : l.length + 1 + 1 ≤ maxLen := hm
    simp [aAppend, he, hi, hz, h1, h3, slCells, hb2, hm2, rm, tk, ints, AV.one]
theorem leave_ts (T : List Nat) {v : AV} (hb : v.bnd 0 0 0 = true) : leave ⟨0, 0, 0⟩ v ⟨[], T, []⟩ = (v, .nil) := by
  simp [leave, hb, H.nil]
/-- Close of natural numbers -/
noncomputable def c23i : PCtr Tryd.prog where
  f := 23
  X := Nat × List Nat × Room
  args x := [I x.1, ls (ic x.2.1) x.2.2]
  pre x := (x.1 ≤ 6 ∧ lim (ic x.2.1).length) ∧ rok (ic x.2.1) x.2.2 ∧ oks x.1 (ic x.2.1)
  v x := ls (lst (cls (fm x.2.1))) (rn (lst (cls (fm x.2.1))))
  det := by
    rintro ⟨n, l, r⟩ ⟨n', l', r'⟩ e _ _
    simp at e
    obtain ⟨_, h3, _⟩ := e
    subst h3; rfl
  ok := by
    rintro ⟨n, l, r⟩ h
    have : callable Tryd.prog 23 = true ∧ ∀ H, CallOk Tryd.prog 23 [I n, ls (ic l) r] H (ls (lst (cls (fm (nl (ic l))))) (rn (lst (cls (fm (nl (ic l))))))) H := c23.ok (n, ic l, r) h
    rw [nl_ic] at this
    exact this
abbrev mA (T K : List Nat) : AV := ls (ic K) (rm T.length (ic K))
abbrev mH (T K : List Nat) : H := ⟨[], T ++ tk (ic K), []⟩
theorem hapM (T K : List Nat) (v : Nat) (hK : K.length ≤ 1000000000) : aAppend Tryd.prog 22 22 (mA T K) (.sl [I v] 1 .full) (mH T K) = some (mA T (K ++ [v]), mH T (K ++ [v])) := by
  have := app_intsT (P := Tryd.prog) (t := 22) (by kernel_rfl) (l := ic K) (x := v) (ts := T) rfl (by rw [ic_len]; exact hK)
  rw [mA, mH, mA, mH, show ic (K ++ [v]) = ic K ++ [(v : Int)] by simp [ic]]
  exact this
def yl (m x g t : Nat) : List Nat := (List.range t).map fun y => exg m x y g
def xl (m g t : Nat) : List Nat := (List.range t).flatMap fun x => yl m x g x
theorem yl_succ (m x g t : Nat) : yl m x g (t + 1) = yl m x g t ++ [exg m x t g] := by simp [yl, List.range_succ]
theorem xl_succ (m g t : Nat) : xl m g (t + 1) = xl m g t ++ yl m t g t := by simp [xl, List.range_succ]
theorem yl_len (m x g t : Nat) : (yl m x g t).length = t := by simp [yl]
theorem xl_len (m g : Nat) : ∀ t, t ≤ 4 → (xl m g t).length ≤ 4 * t
  | 0, _ => by simp [xl]
  | t + 1, h => by rw [xl_succ, List.length_append, yl_len]; have := xl_len m g t (by omega); omega
theorem mxg_eq (m g : Nat) : mxg m g = g :: xl m g m := rfl
def gl (m : Nat) (l : List Nat) : List Nat := l.flatMap (mxg m)
theorem gl_app (m : Nat) (l : List Nat) (g : Nat) : gl m (l ++ [g]) = gl m l ++ [g] ++ xl m g m := by simp [gl, mxg_eq]
theorem gl_len {m : Nat} (hm : m ≤ 4) : ∀ l : List Nat, (gl m l).length ≤ 17 * l.length
  | [] => by simp [gl]
  | g :: l => by
    have h1 := gl_len hm l
    have h2 := xl_len m g m hm
    have : gl m (g :: l) = mxg m g ++ gl m l := by simp [gl]
    rw [this, List.length_append, mxg_eq, List.length_cons, List.length_cons]; omega
abbrev fA5 (G : W) : AV := ls (lst G) (rn (lst G))
abbrev o51d (m : Nat) (G : W) (T K : List Nat) (i g x : Nat) : List Out := [.mk Unit (.exit 6) [0, 5, 6, 8, 16, 17, 18, 26, 27] (fun _ => True) (fun _ => [I m, fA5 G, mA T (K ++ yl m x g x), I g, fA5 G, I (lst G).length, I i, I m, I x]) (fun _ => mH T (K ++ yl m x g x)) (fun _ => [])]
theorem simp51d : allSimpleM none1 (loopAt Tryd.f51 3) = true := by kernel_rfl
theorem simp51c : allSimpleM none1 (loopAt Tryd.f51 2) = true := by kernel_rfl
theorem simp51b : allSimpleM none1 (loopAt Tryd.f51 1) = true := by kernel_rfl
theorem simp51 : allSimpleM none1 (loopAt Tryd.f51 0) = true := by kernel_rfl
theorem rest51 : Rests (En6 [c50.to, c23i.to, c98.to]) none1 := rests mixed (.pure _ (.pure _ (.pure _ .nil)))
theorem lp51d (m : Nat) (G : W) (T K : List Nat) (i g x : Nat) (hm : 2 ≤ m ∧ m ≤ 4) (hg : g < 64) (hx : x < m) (hK : K.length ≤ 100000) :
    LoopS (En6 [c50.to, c23i.to, c98.to]) (loopAt Tryd.f51 3) 56 [0, 5, 6, 8, 9, 16, 17, 18, 26, 27, 30, 31] [I m, fA5 G, mA T K, I g, I x, fA5 G, I (lst G).length, I i, I m, I x, I x, I 0] (mH T K) (o51d m G T K i g x) := by
  refine loop_s rest51 simp51d none (by intro _ h; cases h) (fun y vs h => h = mH T (K ++ yl m x g y) ∧ vs = [I m, fA5 G, mA T (K ++ yl m x g y), I g, I x, fA5 G, I (lst G).length, I i, I m, I x, I x, I y]) x ⟨by rw [show K ++ yl m x g 0 = K from List.append_nil K], by rw [show K ++ yl m x g 0 = K from List.append_nil K]; rfl⟩ (by intro _ h; cases h) ?_
  rintro y vs h hk ⟨rfl, rfl⟩
  by_cases hz : (y : Int) < x
  · have hz' : y < x := by omega
    have h2 : n2 m x y := ⟨hm, hx, hz'⟩
    have p98 : n2 m x y ∧ g < 64 := ⟨h2, hg⟩
    have hap := hapM T (K ++ yl m x g y) (exg m x y g) (by rw [List.length_append, yl_len]; omega)
    have ev0 : IntKind.i64.wrap ((y : Int) + 1) = ((y + 1 : Nat) : Int) := by rw [wr _ (by omega) (by omega)]; omega
    have hst : K ++ yl m x g (y + 1) = K ++ yl m x g y ++ [exg m x y g] := by rw [yl_succ, List.append_assoc]
    refine ⟨[Ans.o (Orc.b true), Ans.o (Orc.val 39 (I (↑(exg m x y g) : Int)) (H.mk [] (T ++ tk (ic (K ++ yl m x g y))) [])), Ans.o (Orc.val 41 (mA T (K ++ yl m x g y ++ [exg m x y g])) (mH T (K ++ yl m x g y ++ [exg m x y g]))), Ans.o (Orc.val 42 (I (↑(y + (1 : Nat)) : Int)) H.nil)], fun u => of_eq ((↑y : Int) < (↑x : Int) ∧ aCall (Sof [c50.to, c23i.to, c98.to]) (AV.fn (Fn.func (98 : Nat)) [] []) [I (↑m : Int), I (↑g : Int), I (↑x : Int), I (↑y : Int)] (H.mk [] (T ++ tk (ic (K ++ yl m x g y))) []) = some (I (↑(exg m x y g) : Int), H.mk [] (T ++ tk (ic (K ++ yl m x g y))) []) ∧ aAppend Tryd.prog (22 : Nat) (22 : Nat) (AV.sl (ints (ic (K ++ yl m x g y))) (ic (K ++ yl m x g y)).length (rm T.length (ic (K ++ yl m x g y)))) (AV.sl [I (↑(exg m x y g) : Int)] (1 : Nat) Room.full) (H.mk [] (T ++ tk (ic (K ++ yl m x g y))) []) = some (AV.sl (ints (ic (K ++ yl m x g y ++ [exg m x y g]))) (ic (K ++ yl m x g y ++ [exg m x y g])).length (rm T.length (ic (K ++ yl m x g y ++ [exg m x y g]))), H.mk [] (T ++ tk (ic (K ++ yl m x g y ++ [exg m x y g]))) []) ∧ aBin Tryd.prog BinOp.add (3 : Nat) (I (↑y : Int)) (I 1) = some (I (↑(y + (1 : Nat)) : Int)) ∧ (56 : Nat) = (56 : Nat) ∧ y < x ∧ Keep (H.mk [] (T ++ tk (ic (K ++ yl m x g y ++ [exg m x y g]))) [] = H.mk [] (T ++ tk (ic (K ++ yl m x g (y + (1 : Nat))))) [] ∧ [I (↑m : Int), AV.sl (ints (lst G)) (lst G).length (rn (lst G)), AV.sl (ints (ic (K ++ yl m x g y ++ [exg m x y g]))) (ic (K ++ yl m x g y ++ [exg m x y g])).length (rm T.length (ic (K ++ yl m x g y ++ [exg m x y g]))), I (↑g : Int), I (↑x : Int), AV.sl (ints (lst G)) (lst G).length (rn (lst G)), I (↑(lst G).length : Int), I (↑i : Int), I (↑m : Int), I (↑x : Int), I (↑x : Int), I (↑(y + (1 : Nat)) : Int)] = [I (↑m : Int), AV.sl (ints (lst G)) (lst G).length (rn (lst G)), AV.sl (ints (ic (K ++ yl m x g (y + (1 : Nat))))) (ic (K ++ yl m x g (y + (1 : Nat)))).length (rm T.length (ic (K ++ yl m x g (y + (1 : Nat))))), I (↑g : Int), I (↑x : Int), AV.sl (ints (lst G)) (lst G).length (rn (lst G)), I (↑(lst G).length : Int), I (↑i : Int), I (↑m : Int), I (↑x : Int), I (↑x : Int), I (↑(y + (1 : Nat)) : Int)])) (by kernel_rfl) ?_⟩
    refine ⟨by first | with_reducible assumption | omega | assumption, ?_⟩
    refine ⟨acall_hit (c := c98.to) (m, g, x, y) _ rfl p98, ?_⟩
    refine ⟨hap, ?_⟩
    refine ⟨told_add (by with_reducible assumption), ?_⟩
    refine ⟨by first | with_reducible assumption | omega | assumption, ?_⟩
    refine ⟨by first | with_reducible assumption | omega | assumption, ?_⟩
    exact ⟨by rw [hst], by rw [hst]⟩
  · have hz : (x : Int) ≤ y := by omega
    have hk' : y = x := by omega
    subst hk'
    refine ⟨[Ans.o (Orc.b false)], fun u => of_eq ((↑y : Int) ≤ (↑y : Int) ∧ (56 : Nat) = (56 : Nat) ∧ hits [Out.mk Unit (AX.exit (6 : Nat)) [(0 : Nat), (5 : Nat), (6 : Nat), (8 : Nat), (16 : Nat), (17 : Nat), (18 : Nat), (26 : Nat), (27 : Nat)] (fun x => True) (fun x => [I (↑m : Int), fA5 G, mA T (K ++ yl m y g y), I (↑g : Int), fA5 G, I (↑(lst G).length : Int), I (↑i : Int), I (↑m : Int), I (↑y : Int)]) (fun x => mH T (K ++ yl m y g y)) fun x => []] (AX.exit (6 : Nat)) [I (↑m : Int), u (1 : Nat), u (2 : Nat), u (3 : Nat), u (4 : Nat), AV.sl (ints (lst G)) (lst G).length (rn (lst G)), AV.sl (ints (ic (K ++ yl m y g y))) (ic (K ++ yl m y g y)).length (rm T.length (ic (K ++ yl m y g y))), u (7 : Nat), I (↑g : Int), I (↑y : Int), u (10 : Nat), u (11 : Nat), u (12 : Nat), u (13 : Nat), u (14 : Nat), u (15 : Nat), AV.sl (ints (lst G)) (lst G).length (rn (lst G)), I (↑(lst G).length : Int), I (↑i : Int), u (19 : Nat), u (20 : Nat), u (21 : Nat), u (22 : Nat), u (23 : Nat), u (24 : Nat), u (25 : Nat), I (↑m : Int), I (↑y : Int), u (28 : Nat), u (29 : Nat), I (↑y : Int), I (↑y : Int), AV.bool false, u (33 : Nat), u (34 : Nat), u (35 : Nat), u (36 : Nat), u (37 : Nat), u (38 : Nat), u (39 : Nat), u (40 : Nat), u (41 : Nat), u (42 : Nat), u (43 : Nat), u (44 : Nat), u (45 : Nat), u (46 : Nat), u (47 : Nat), u (48 : Nat), u (49 : Nat), u (50 : Nat), u (51 : Nat), u (52 : Nat), u (53 : Nat), u (54 : Nat), u (55 : Nat)] (H.mk [] (T ++ tk (ic (K ++ yl m y g y))) [])) (by kernel_rfl) ?_⟩
    refine ⟨by first | with_reducible assumption | omega | assumption, ?_⟩
    refine ⟨by first | with_reducible assumption | omega | assumption, ?_⟩
    exact .inl ⟨(), trivial, rfl, rfl, rfl⟩
abbrev o51c (m : Nat) (G : W) (T K : List Nat) (i g : Nat) : List Out := [.mk Unit (.exit 4) [0, 5, 6, 16, 17, 18] (fun _ => True) (fun _ => [I m, fA5 G, mA T (K ++ xl m g m), fA5 G, I (lst G).length, I i]) (fun _ => mH T (K ++ xl m g m)) (fun _ => [])]
theorem lp51c (m : Nat) (G : W) (T K : List Nat) (i g : Nat) (hm : 2 ≤ m ∧ m ≤ 4) (hg : g < 64) (hK : K.length ≤ 90000) :
    LoopS (En6 [c50.to, c23i.to, c98.to]) (loopAt Tryd.f51 2) 56 [0, 5, 6, 8, 16, 17, 18, 26, 27] [I m, fA5 G, mA T K, I g, fA5 G, I (lst G).length, I i, I m, I 0] (mH T K) (o51c m G T K i g) := by
  refine loop_s rest51 simp51c none (by intro _ h; cases h) (fun x vs h => h = mH T (K ++ xl m g x) ∧ vs = [I m, fA5 G, mA T (K ++ xl m g x), I g, fA5 G, I (lst G).length, I i, I m, I x]) m ⟨by rw [show K ++ xl m g 0 = K from List.append_nil K], by rw [show K ++ xl m g 0 = K from List.append_nil K]; rfl⟩ (by intro _ h; cases h) ?_
  rintro x vs h hk ⟨rfl, rfl⟩
  by_cases hz : (x : Int) < m
  · have hz' : x < m := by omega
    have hxl := xl_len m g x (by omega)
    have hin := lp51d m G T (K ++ xl m g x) i g x hm hg hz' (by rw [List.length_append]; omega)
    have ev0 : IntKind.i64.wrap ((x : Int) + 1) = ((x + 1 : Nat) : Int) := by rw [wr _ (by omega) (by omega)]; omega
    have hst : K ++ xl m g (x + 1) = K ++ xl m g x ++ yl m x g x := by rw [xl_succ, List.append_assoc]
    refine ⟨[Ans.o (Orc.b true), Ans.loop [(0 : Nat), (5 : Nat), (6 : Nat), (8 : Nat), (9 : Nat), (16 : Nat), (17 : Nat), (18 : Nat), (26 : Nat), (27 : Nat), (30 : Nat), (31 : Nat)] [Out.mk Unit (AX.exit (6 : Nat)) [(0 : Nat), (5 : Nat), (6 : Nat), (8 : Nat), (16 : Nat), (17 : Nat), (18 : Nat), (26 : Nat), (27 : Nat)] (fun x => True) (fun x_1 => [I (↑m : Int), fA5 G, mA T (K ++ xl m g x ++ yl m x g x), I (↑g : Int), fA5 G, I (↑(lst G).length : Int), I (↑i : Int), I (↑m : Int), I (↑x : Int)]) (fun x_1 => mH T (K ++ xl m g x ++ yl m x g x)) fun y => [Ans.o (Orc.val 43 (I (↑(x + (1 : Nat)) : Int)) H.nil)]]], fun u => of_eq ((↑x : Int) < (↑m : Int) ∧ LoopS (Env.mk Tryd.prog (Sof [c50.to, c23i.to, c98.to]) (Pof (P := Tryd.prog) []) H.nil.base (300 : Nat)) (loopAt Tryd.f51 (3 : Nat)) (56 : Nat) [(0 : Nat), (5 : Nat), (6 : Nat), (8 : Nat), (9 : Nat), (16 : Nat), (17 : Nat), (18 : Nat), (26 : Nat), (27 : Nat), (30 : Nat), (31 : Nat)] [I (↑m : Int), AV.sl (ints (lst G)) (lst G).length (rn (lst G)), AV.sl (ints (ic (K ++ xl m g x))) (ic (K ++ xl m g x)).length (rm T.length (ic (K ++ xl m g x))), I (↑g : Int), I (↑x : Int), AV.sl (ints (lst G)) (lst G).length (rn (lst G)), I (↑(lst G).length : Int), I (↑i : Int), I (↑m : Int), I (↑x : Int), I (↑x : Int), I 0] (H.mk [] (T ++ tk (ic (K ++ xl m g x))) []) [Out.mk Unit (AX.exit (6 : Nat)) [(0 : Nat), (5 : Nat), (6 : Nat), (8 : Nat), (16 : Nat), (17 : Nat), (18 : Nat), (26 : Nat), (27 : Nat)] (fun x => True) (fun x_1 => [I (↑m : Int), fA5 G, mA T (K ++ xl m g x ++ yl m x g x), I (↑g : Int), fA5 G, I (↑(lst G).length : Int), I (↑i : Int), I (↑m : Int), I (↑x : Int)]) (fun x_1 => mH T (K ++ xl m g x ++ yl m x g x)) fun y => [Ans.o (Orc.val 43 (I (↑(x + (1 : Nat)) : Int)) H.nil)]] ∧ (∀ (y : Unit), True → ∀ (u : Nat → AV), aBin Tryd.prog BinOp.add (3 : Nat) (I (↑x : Int)) (I 1) = some (I (↑(x + (1 : Nat)) : Int)) ∧ (56 : Nat) = (56 : Nat) ∧ x < m ∧ Keep (H.mk [] (T ++ tk (ic (K ++ xl m g x ++ yl m x g x))) [] = H.mk [] (T ++ tk (ic (K ++ xl m g (x + (1 : Nat))))) [] ∧ [I (↑m : Int), AV.sl (ints (lst G)) (lst G).length (rn (lst G)), AV.sl (ints (ic (K ++ xl m g x ++ yl m x g x))) (ic (K ++ xl m g x ++ yl m x g x)).length (rm T.length (ic (K ++ xl m g x ++ yl m x g x))), I (↑g : Int), AV.sl (ints (lst G)) (lst G).length (rn (lst G)), I (↑(lst G).length : Int), I (↑i : Int), I (↑m : Int), I (↑(x + (1 : Nat)) : Int)] = [I (↑m : Int), AV.sl (ints (lst G)) (lst G).length (rn (lst G)), AV.sl (ints (ic (K ++ xl m g (x + (1 : Nat))))) (ic (K ++ xl m g (x + (1 : Nat)))).length (rm T.length (ic (K ++ xl m g (x + (1 : Nat))))), I (↑g : Int), AV.sl (ints (lst G)) (lst G).length (rn (lst G)), I (↑(lst G).length : Int), I (↑i : Int), I (↑m : Int), I (↑(x + (1 : Nat)) : Int)])) ∧ True) (by kernel_rfl) ?_⟩
    refine ⟨by first | with_reducible assumption | omega | assumption, ?_⟩
    refine ⟨hin, ?_⟩
    refine And.intro ?_ ?_
    · skip
      intro y
      intro w1
      intro u
      refine ⟨told_add (by with_reducible assumption), ?_⟩
      refine ⟨by first | with_reducible assumption | omega | assumption, ?_⟩
      refine ⟨by first | with_reducible assumption | omega | assumption, ?_⟩
      exact ⟨by rw [hst], by rw [hst]⟩
    · skip
      trivial
  · have hz : (m : Int) ≤ x := by omega
    have hk' : x = m := by omega
    subst hk'
    refine ⟨[Ans.o (Orc.b false)], fun u => of_eq ((↑x : Int) ≤ (↑x : Int) ∧ (56 : Nat) = (56 : Nat) ∧ hits [Out.mk Unit (AX.exit (4 : Nat)) [(0 : Nat), (5 : Nat), (6 : Nat), (16 : Nat), (17 : Nat), (18 : Nat)] (fun x => True) (fun x_1 => [I (↑x : Int), fA5 G, mA T (K ++ xl x g x), fA5 G, I (↑(lst G).length : Int), I (↑i : Int)]) (fun x_1 => mH T (K ++ xl x g x)) fun x => []] (AX.exit (4 : Nat)) [I (↑x : Int), u (1 : Nat), u (2 : Nat), u (3 : Nat), u (4 : Nat), AV.sl (ints (lst G)) (lst G).length (rn (lst G)), AV.sl (ints (ic (K ++ xl x g x))) (ic (K ++ xl x g x)).length (rm T.length (ic (K ++ xl x g x))), u (7 : Nat), I (↑g : Int), u (9 : Nat), u (10 : Nat), u (11 : Nat), u (12 : Nat), u (13 : Nat), u (14 : Nat), u (15 : Nat), AV.sl (ints (lst G)) (lst G).length (rn (lst G)), I (↑(lst G).length : Int), I (↑i : Int), u (19 : Nat), u (20 : Nat), u (21 : Nat), u (22 : Nat), u (23 : Nat), u (24 : Nat), u (25 : Nat), I (↑x : Int), I (↑x : Int), AV.bool false, u (29 : Nat), u (30 : Nat), u (31 : Nat), u (32 : Nat), u (33 : Nat), u (34 : Nat), u (35 : Nat), u (36 : Nat), u (37 : Nat), u (38 : Nat), u (39 : Nat), u (40 : Nat), u (41 : Nat), u (42 : Nat), u (43 : Nat), u (44 : Nat), u (45 : Nat), u (46 : Nat), u (47 : Nat), u (48 : Nat), u (49 : Nat), u (50 : Nat), u (51 : Nat), u (52 : Nat), u (53 : Nat), u (54 : Nat), u (55 : Nat)] (H.mk [] (T ++ tk (ic (K ++ xl x g x))) [])) (by kernel_rfl) ?_⟩
    refine ⟨by first | with_reducible assumption | omega | assumption, ?_⟩
    refine ⟨by first | with_reducible assumption | omega | assumption, ?_⟩
    exact .inl ⟨(), trivial, rfl, rfl, rfl⟩
abbrev o51b (m : Nat) (G : W) (T : List Nat) : List Out := [.mk Unit (.exit 2) [0, 5, 6] (fun _ => True) (fun _ => [I m, fA5 G, mA T (mx m G)]) (fun _ => mH T (mx m G)) (fun _ => [])]
theorem lp51b (m : Nat) (G : W) (T : List Nat) (hm : 2 ≤ m ∧ m ≤ 4) :
    LoopS (En6 [c50.to, c23i.to, c98.to]) (loopAt Tryd.f51 1) 56 [0, 5, 6, 16, 17, 18] [I m, fA5 G, mA T [], fA5 G, I (lst G).length, I 0] (mH T []) (o51b m G T) := by
  refine loop_s rest51 simp51b none (by intro _ h; cases h) (fun i vs h => h = mH T (gl m ((elts G).take i)) ∧ vs = [I m, fA5 G, mA T (gl m ((elts G).take i)), fA5 G, I (lst G).length, I i]) (elts G).length ⟨rfl, rfl⟩ (by intro _ h; cases h) ?_
  rintro i vs h hk ⟨rfl, rfl⟩
  have hle : (lst G).length = (elts G).length := ic_len _
  have h64 := len_64 G
  by_cases hz : (i : Int) < (lst G).length
  · have hz' : i < (lst G).length := by omega
    have hze : i < (elts G).length := by omega
    have hro := rok_idx (rn_rok (lst G)) hz'
    have hg : ia (lst G) i = (((elts G)[i]'hze : Nat) : Int) := by simp [lst, ic, List.getD_eq_getElem?_getD, hze]
    have hg64 : (elts G)[i]'hze < 64 := hs_lt (Go.Proofs.Sur.mem_bits.1 (List.getElem_mem hze))
    have htk : (elts G).take (i + 1) = (elts G).take i ++ [(elts G)[i]'hze] := by rw [List.take_add_one, List.getElem?_eq_getElem hze]; rfl
    generalize (elts G)[i]'hze = g at hg hg64 htk
    have hgl := gl_len hm.2 ((elts G).take i)
    rw [List.length_take] at hgl
    have hap := hapM T (gl m ((elts G).take i)) g (by omega)
    have hin := lp51c m G T (gl m ((elts G).take i) ++ [g]) i g hm hg64 (by rw [List.length_append, List.length_singleton]; omega)
    have ev0 : IntKind.i64.wrap ((i : Int) + 1) = ((i + 1 : Nat) : Int) := by rw [wr _ (by omega) (by omega)]; omega
    have hst : gl m ((elts G).take (i + 1)) = gl m ((elts G).take i) ++ [g] ++ xl m g m := by rw [htk, gl_app]
    rw [← hg] at hap hin
    refine ⟨[Ans.o (Orc.b true), Ans.o (Orc.val 20 (AV.cptr (ints (List.drop i (lst G)))) H.nil), Ans.o (Orc.val 21 (I ((lst G).getD i i0)) H.nil), Ans.o (Orc.val 25 (mA T (gl m (List.take i (elts G)) ++ [g])) (mH T (gl m (List.take i (elts G)) ++ [g]))), Ans.loop [(0 : Nat), (5 : Nat), (6 : Nat), (8 : Nat), (16 : Nat), (17 : Nat), (18 : Nat), (26 : Nat), (27 : Nat)] [Out.mk Unit (AX.exit (4 : Nat)) [(0 : Nat), (5 : Nat), (6 : Nat), (16 : Nat), (17 : Nat), (18 : Nat)] (fun x => True) (fun x => [I (↑m : Int), fA5 G, mA T (gl m (List.take i (elts G)) ++ [g] ++ xl m g m), fA5 G, I (↑(lst G).length : Int), I (↑i : Int)]) (fun x => mH T (gl m (List.take i (elts G)) ++ [g] ++ xl m g m)) fun y => [Ans.o (Orc.val 44 (I (↑(i + (1 : Nat)) : Int)) H.nil)]]], fun u => of_eq ((↑i : Int) < (↑(lst G).length : Int) ∧ aIndexAddr Tryd.prog (22 : Nat) (AV.sl (ints (lst G)) (lst G).length (rn (lst G))) (I (↑i : Int)) = some (AV.cptr (ints (List.drop i (lst G)))) ∧ aLoad Tryd.prog (3 : Nat) (ints (List.drop i (lst G))) = some (I ((lst G).getD i i0)) ∧ aAppend Tryd.prog (22 : Nat) (22 : Nat) (AV.sl (ints (ic (gl m (List.take i (elts G))))) (ic (gl m (List.take i (elts G)))).length (rm T.length (ic (gl m (List.take i (elts G)))))) (AV.sl [I ((lst G).getD i i0)] (1 : Nat) Room.full) (H.mk [] (T ++ tk (ic (gl m (List.take i (elts G))))) []) = some (AV.sl (ints (ic (gl m (List.take i (elts G)) ++ [g]))) (ic (gl m (List.take i (elts G)) ++ [g])).length (rm T.length (ic (gl m (List.take i (elts G)) ++ [g]))), H.mk [] (T ++ tk (ic (gl m (List.take i (elts G)) ++ [g]))) []) ∧ LoopS (Env.mk Tryd.prog (Sof [c50.to, c23i.to, c98.to]) (Pof (P := Tryd.prog) []) H.nil.base (300 : Nat)) (loopAt Tryd.f51 (2 : Nat)) (56 : Nat) [(0 : Nat), (5 : Nat), (6 : Nat), (8 : Nat), (16 : Nat), (17 : Nat), (18 : Nat), (26 : Nat), (27 : Nat)] [I (↑m : Int), AV.sl (ints (lst G)) (lst G).length (rn (lst G)), AV.sl (ints (ic (gl m (List.take i (elts G)) ++ [g]))) (ic (gl m (List.take i (elts G)) ++ [g])).length (rm T.length (ic (gl m (List.take i (elts G)) ++ [g]))), I ((lst G).getD i i0), AV.sl (ints (lst G)) (lst G).length (rn (lst G)), I (↑(lst G).length : Int), I (↑i : Int), I (↑m : Int), I 0] (H.mk [] (T ++ tk (ic (gl m (List.take i (elts G)) ++ [g]))) []) [Out.mk Unit (AX.exit (4 : Nat)) [(0 : Nat), (5 : Nat), (6 : Nat), (16 : Nat), (17 : Nat), (18 : Nat)] (fun x => True) (fun x => [I (↑m : Int), fA5 G, mA T (gl m (List.take i (elts G)) ++ [g] ++ xl m g m), fA5 G, I (↑(lst G).length : Int), I (↑i : Int)]) (fun x => mH T (gl m (List.take i (elts G)) ++ [g] ++ xl m g m)) fun y => [Ans.o (Orc.val 44 (I (↑(i + (1 : Nat)) : Int)) H.nil)]] ∧ (∀ (y : Unit), True → ∀ (u : Nat → AV), aBin Tryd.prog BinOp.add (3 : Nat) (I (↑i : Int)) (I 1) = some (I (↑(i + (1 : Nat)) : Int)) ∧ (56 : Nat) = (56 : Nat) ∧ i < (elts G).length ∧ Keep (H.mk [] (T ++ tk (ic (gl m (List.take i (elts G)) ++ [g] ++ xl m g m))) [] = H.mk [] (T ++ tk (ic (gl m (List.take (i + (1 : Nat)) (elts G))))) [] ∧ [I (↑m : Int), AV.sl (ints (lst G)) (lst G).length (rn (lst G)), AV.sl (ints (ic (gl m (List.take i (elts G)) ++ [g] ++ xl m g m))) (ic (gl m (List.take i (elts G)) ++ [g] ++ xl m g m)).length (rm T.length (ic (gl m (List.take i (elts G)) ++ [g] ++ xl m g m))), AV.sl (ints (lst G)) (lst G).length (rn (lst G)), I (↑(lst G).length : Int), I (↑(i + (1 : Nat)) : Int)] = [I (↑m : Int), AV.sl (ints (lst G)) (lst G).length (rn (lst G)), AV.sl (ints (ic (gl m (List.take (i + (1 : Nat)) (elts G))))) (ic (gl m (List.take (i + (1 : Nat)) (elts G)))).length (rm T.length (ic (gl m (List.take (i + (1 : Nat)) (elts G))))), AV.sl (ints (lst G)) (lst G).length (rn (lst G)), I (↑(lst G).length : Int), I (↑(i + (1 : Nat)) : Int)])) ∧ True) (by kernel_rfl) ?_⟩
    refine ⟨by first | with_reducible assumption | omega | assumption, ?_⟩
    refine ⟨ix_ints (by kernel_rfl) hz' hro, ?_⟩
    refine ⟨by first | exact ld_ints (by kernel_rfl) (by kernel_rfl) (by omega) | exact ldm_ints (by kernel_rfl) (by kernel_rfl) (by first | omega | (simp; omega)), ?_⟩
    refine ⟨hap, ?_⟩
    refine ⟨hin, ?_⟩
    refine And.intro ?_ ?_
    · skip
      intro y
      intro w1
      intro u
      refine ⟨told_add (by with_reducible assumption), ?_⟩
      refine ⟨by first | with_reducible assumption | omega | assumption, ?_⟩
      refine ⟨by first | with_reducible assumption | omega | assumption, ?_⟩
      exact ⟨by rw [hst], by rw [hst]⟩
    · skip
      trivial
  · have hz : ((lst G).length : Int) ≤ i := by omega
    have hk' : i = (elts G).length := by omega
    have hmx : gl m ((elts G).take i) = mx m G := by rw [hk', List.take_length]; rfl
    refine ⟨[Ans.o (Orc.b false)], fun u => of_eq ((↑(lst G).length : Int) ≤ (↑i : Int) ∧ (56 : Nat) = (56 : Nat) ∧ hits [Out.mk Unit (AX.exit (2 : Nat)) [(0 : Nat), (5 : Nat), (6 : Nat)] (fun x => True) (fun x => [I (↑m : Int), fA5 G, mA T (mx m G)]) (fun x => mH T (mx m G)) fun x => []] (AX.exit (2 : Nat)) [I (↑m : Int), u (1 : Nat), u (2 : Nat), u (3 : Nat), u (4 : Nat), AV.sl (ints (lst G)) (lst G).length (rn (lst G)), AV.sl (ints (ic (gl m (List.take i (elts G))))) (ic (gl m (List.take i (elts G)))).length (rm T.length (ic (gl m (List.take i (elts G))))), u (7 : Nat), u (8 : Nat), u (9 : Nat), u (10 : Nat), u (11 : Nat), u (12 : Nat), u (13 : Nat), u (14 : Nat), u (15 : Nat), AV.sl (ints (lst G)) (lst G).length (rn (lst G)), I (↑(lst G).length : Int), I (↑i : Int), AV.bool false, u (20 : Nat), u (21 : Nat), u (22 : Nat), u (23 : Nat), u (24 : Nat), u (25 : Nat), u (26 : Nat), u (27 : Nat), u (28 : Nat), u (29 : Nat), u (30 : Nat), u (31 : Nat), u (32 : Nat), u (33 : Nat), u (34 : Nat), u (35 : Nat), u (36 : Nat), u (37 : Nat), u (38 : Nat), u (39 : Nat), u (40 : Nat), u (41 : Nat), u (42 : Nat), u (43 : Nat), u (44 : Nat), u (45 : Nat), u (46 : Nat), u (47 : Nat), u (48 : Nat), u (49 : Nat), u (50 : Nat), u (51 : Nat), u (52 : Nat), u (53 : Nat), u (54 : Nat), u (55 : Nat)] (H.mk [] (T ++ tk (ic (gl m (List.take i (elts G))))) [])) (by kernel_rfl) ?_⟩
    refine ⟨by first | with_reducible assumption | omega | assumption, ?_⟩
    refine ⟨by first | with_reducible assumption | omega | assumption, ?_⟩
    exact .inl ⟨(), trivial, rfl, by rw [← hmx]; rfl, by rw [← hmx]⟩
/-- what the lists leave behind -/
def tkI (h : H) : Prop := ∃ T : List Nat, h = ⟨[], T, []⟩
theorem rm_rok (n : Nat) (l : List Int) : rok l (rm n l) := by intro h; cases l <;> simp_all [rm]
theorem mx_oks {m : Nat} {F : W} (hm : 2 ≤ m ∧ m ≤ 4) (hr : Rg (nP m) F) : oks (nP m) (ic (mx m F)) := fun i hi => by
  have h := ia_mem hi
  simp only [ic, List.mem_map] at h
  obtain ⟨a, h1, h2⟩ := h
  have := mx_lt hm hr h1
  have h2 : (a : Int) = ia (ic (mx m F)) i := h2
  rw [← h2]; omega
theorem mx_len {m : Nat} (F : W) (hm : m ≤ 4) : (mx m F).length ≤ 1088 := by
  have h1 : (mx m F).length ≤ 17 * (elts F).length := gl_len hm (elts F)
  have := len_64 F
  omega
abbrev o51 (m : Nat) (F : W) : List Out := [.mk (List Nat) .ret [4] (fun _ => True) (fun _ => [fA5 (spV m F)]) (fun T => ⟨[], T, []⟩) (fun _ => [])]
theorem lp51 (m : Nat) (F : W) (hm : 2 ≤ m ∧ m ≤ 4) (hr : Rg (nP m) F) :
    LoopS (En6 [c50.to, c23i.to, c98.to]) (loopAt Tryd.f51 0) 56 [0, 5] [I m, fA5 (cls F)] .nil (o51 m F) := by
  refine loop_s rest51 simp51 none (by intro _ h; cases h) (fun j vs h => tkI h ∧ vs = [I m, fA5 (itS m (cls F) j)] ∧ j ≤ (elts (itS m (cls F) j)).length) 65 ⟨⟨[], rfl⟩, rfl, Nat.zero_le _⟩ (by intro _ h; cases h) ?_
  rintro j vs h hk ⟨⟨T, rfl⟩, rfl, hI⟩
  have hGr := itS_rg hm (cls_rg hr) j
  have hsp := itS_sp (j := j) hm hr
  have hle := rnS_le hm hGr
  have hnx : itS m (cls F) (j + 1) = cls (fm (mx m (itS m (cls F) j))) := rfl
  have hle1 : j + 1 ≤ 65 := by have := len_64 (itS m (cls F) j); omega
  rw [show rnS m (itS m (cls F) j) = cls (fm (mx m (itS m (cls F) j))) from rfl] at hsp hle
  have hin := lp51b m (itS m (cls F) j) T hm
  rw [show mH T [] = ⟨[], T, []⟩ by show (⟨[], T ++ [], []⟩ : H) = _; rw [List.append_nil]] at hin
  generalize itS m (cls F) j = G at *
  have h64 := len_64 G
  have hml := mx_len (m := m) G hm.2
  have hn6 := nP_6 hm.2
  have p23 : (nP m ≤ 6 ∧ lim (ic (mx m G)).length) ∧ rok (ic (mx m G)) (rm T.length (ic (mx m G))) ∧ oks (nP m) (ic (mx m G)) := ⟨⟨hn6, by rw [ic_len]; simp only [lim]; omega⟩, rm_rok _ _, mx_oks hm hGr⟩
  by_cases hq : cls (fm (mx m G)) = G
  · have hS := hsp hq
    have hlen : ((lst (cls (fm (mx m G)))).length : Int) = ((lst G).length : Int) := by rw [hq]
    have hval : cls (fm (mx m G)) = spV m F := by rw [hq, hS]
    clear hsp hle hnx
    refine ⟨[Ans.loop [(0 : Nat), (5 : Nat), (6 : Nat), (16 : Nat), (17 : Nat), (18 : Nat)] [Out.mk Unit (AX.exit (2 : Nat)) [(0 : Nat), (5 : Nat), (6 : Nat)] (fun x => True) (fun x => [I (↑m : Int), fA5 G, mA T (mx m G)]) (fun x => mH T (mx m G)) fun y => [Ans.o (Orc.val 46 (I (↑(nP m) : Int)) (H.mk [] (T ++ tk (ic (mx m G))) [])), Ans.o (Orc.val 48 (AV.sl (ints (lst (cls (fm (mx m G))))) (lst (cls (fm (mx m G)))).length (rn (lst (cls (fm (mx m G)))))) (H.mk [] (T ++ tk (ic (mx m G))) [])), Ans.o (Orc.b true)]]], fun u => of_eq (LoopS (Env.mk Tryd.prog (Sof [c50.to, c23i.to, c98.to]) (Pof (P := Tryd.prog) []) H.nil.base (300 : Nat)) (loopAt Tryd.f51 (1 : Nat)) (56 : Nat) [(0 : Nat), (5 : Nat), (6 : Nat), (16 : Nat), (17 : Nat), (18 : Nat)] [I (↑m : Int), AV.sl (ints (lst G)) (lst G).length (rn (lst G)), AV.sl [] (0 : Nat) Room.nil, AV.sl (ints (lst G)) (lst G).length (rn (lst G)), I (↑(lst G).length : Int), I 0] (H.mk [] T []) [Out.mk Unit (AX.exit (2 : Nat)) [(0 : Nat), (5 : Nat), (6 : Nat)] (fun x => True) (fun x => [I (↑m : Int), fA5 G, mA T (mx m G)]) (fun x => mH T (mx m G)) fun y => [Ans.o (Orc.val 46 (I (↑(nP m) : Int)) (H.mk [] (T ++ tk (ic (mx m G))) [])), Ans.o (Orc.val 48 (AV.sl (ints (lst (cls (fm (mx m G))))) (lst (cls (fm (mx m G)))).length (rn (lst (cls (fm (mx m G)))))) (H.mk [] (T ++ tk (ic (mx m G))) [])), Ans.o (Orc.b true)]] ∧ (∀ (y : Unit), True → ∀ (u : Nat → AV), aCall (Sof [c50.to, c23i.to, c98.to]) (AV.fn (Fn.func (50 : Nat)) [] []) [I (↑m : Int)] (H.mk [] (T ++ tk (ic (mx m G))) []) = some (I (↑(nP m) : Int), H.mk [] (T ++ tk (ic (mx m G))) []) ∧ aCall (Sof [c50.to, c23i.to, c98.to]) (AV.fn (Fn.func (23 : Nat)) [] []) [I (↑(nP m) : Int), AV.sl (ints (ic (mx m G))) (ic (mx m G)).length (rm T.length (ic (mx m G)))] (H.mk [] (T ++ tk (ic (mx m G))) []) = some (AV.sl (ints (lst (cls (fm (mx m G))))) (lst (cls (fm (mx m G)))).length (rn (lst (cls (fm (mx m G))))), H.mk [] (T ++ tk (ic (mx m G))) []) ∧ (↑(lst (cls (fm (mx m G)))).length : Int) = (↑(lst G).length : Int) ∧ (56 : Nat) = (56 : Nat) ∧ hits [Out.mk (List Nat) AX.ret [(4 : Nat)] (fun x => True) (fun x => [fA5 (spV m F)]) (fun T => H.mk [] T []) fun x => []] AX.ret [I (↑m : Int), u (1 : Nat), u (2 : Nat), u (3 : Nat), AV.sl (ints (lst (cls (fm (mx m G))))) (lst (cls (fm (mx m G)))).length (rn (lst (cls (fm (mx m G))))), AV.sl (ints (lst G)) (lst G).length (rn (lst G)), AV.sl (ints (ic (mx m G))) (ic (mx m G)).length (rm T.length (ic (mx m G))), u (7 : Nat), u (8 : Nat), u (9 : Nat), u (10 : Nat), AV.sl (ints (lst (cls (fm (mx m G))))) (lst (cls (fm (mx m G)))).length (rn (lst (cls (fm (mx m G))))), u (12 : Nat), u (13 : Nat), u (14 : Nat), u (15 : Nat), u (16 : Nat), u (17 : Nat), u (18 : Nat), u (19 : Nat), u (20 : Nat), u (21 : Nat), u (22 : Nat), u (23 : Nat), u (24 : Nat), u (25 : Nat), u (26 : Nat), u (27 : Nat), u (28 : Nat), u (29 : Nat), u (30 : Nat), u (31 : Nat), u (32 : Nat), u (33 : Nat), u (34 : Nat), u (35 : Nat), u (36 : Nat), u (37 : Nat), u (38 : Nat), u (39 : Nat), u (40 : Nat), u (41 : Nat), u (42 : Nat), u (43 : Nat), u (44 : Nat), I (↑m : Int), I (↑(nP m) : Int), AV.sl (ints (ic (mx m G))) (ic (mx m G)).length (rm T.length (ic (mx m G))), AV.sl (ints (lst (cls (fm (mx m G))))) (lst (cls (fm (mx m G)))).length (rn (lst (cls (fm (mx m G))))), AV.sl (ints (lst (cls (fm (mx m G))))) (lst (cls (fm (mx m G)))).length (rn (lst (cls (fm (mx m G))))), I (↑(lst (cls (fm (mx m G)))).length : Int), AV.sl (ints (lst G)) (lst G).length (rn (lst G)), I (↑(lst G).length : Int), AV.bool true, AV.sl (ints (lst (cls (fm (mx m G))))) (lst (cls (fm (mx m G)))).length (rn (lst (cls (fm (mx m G))))), u (55 : Nat)] (H.mk [] (T ++ tk (ic (mx m G))) [])) ∧ True) (by kernel_rfl) ?_⟩
    refine ⟨hin, ?_⟩
    refine And.intro ?_ ?_
    · skip
      intro y
      intro w1
      intro u
      refine ⟨acall_hit (c := c50.to) m _ rfl hm, ?_⟩
      refine ⟨acall_hit (c := c23i.to) (nP m, mx m G, rm T.length (ic (mx m G))) _ rfl p23, ?_⟩
      refine ⟨by first | with_reducible assumption | omega | assumption, ?_⟩
      refine ⟨by first | with_reducible assumption | omega | assumption, ?_⟩
      exact .inl ⟨_, trivial, rfl, by rw [← hval]; rfl, rfl⟩
    · skip
      trivial
  · have hlt := len_lt hle hq
    have e1 : (lst (cls (fm (mx m G)))).length = (elts (cls (fm (mx m G)))).length := ic_len _
    have e2 : (lst G).length = (elts G).length := ic_len _
    have hlen : ((lst (cls (fm (mx m G)))).length : Int) ≠ ((lst G).length : Int) := by omega
    have hj64 := len_64 (cls (fm (mx m G)))
    have hj' : j + 1 ≤ (elts (cls (fm (mx m G)))).length := by omega
    have hj65 : j < 65 := by omega
    clear hsp hle e1 e2
    refine ⟨[Ans.loop [(0 : Nat), (5 : Nat), (6 : Nat), (16 : Nat), (17 : Nat), (18 : Nat)] [Out.mk Unit (AX.exit (2 : Nat)) [(0 : Nat), (5 : Nat), (6 : Nat)] (fun x => True) (fun x => [I (↑m : Int), fA5 G, mA T (mx m G)]) (fun x => mH T (mx m G)) fun y => [Ans.o (Orc.val 46 (I (↑(nP m) : Int)) (H.mk [] (T ++ tk (ic (mx m G))) [])), Ans.o (Orc.val 48 (AV.sl (ints (lst (cls (fm (mx m G))))) (lst (cls (fm (mx m G)))).length (rn (lst (cls (fm (mx m G)))))) (H.mk [] (T ++ tk (ic (mx m G))) [])), Ans.o (Orc.b false)]]], fun u => of_eq (LoopS (Env.mk Tryd.prog (Sof [c50.to, c23i.to, c98.to]) (Pof (P := Tryd.prog) []) H.nil.base (300 : Nat)) (loopAt Tryd.f51 (1 : Nat)) (56 : Nat) [(0 : Nat), (5 : Nat), (6 : Nat), (16 : Nat), (17 : Nat), (18 : Nat)] [I (↑m : Int), AV.sl (ints (lst G)) (lst G).length (rn (lst G)), AV.sl [] (0 : Nat) Room.nil, AV.sl (ints (lst G)) (lst G).length (rn (lst G)), I (↑(lst G).length : Int), I 0] (H.mk [] T []) [Out.mk Unit (AX.exit (2 : Nat)) [(0 : Nat), (5 : Nat), (6 : Nat)] (fun x => True) (fun x => [I (↑m : Int), fA5 G, mA T (mx m G)]) (fun x => mH T (mx m G)) fun y => [Ans.o (Orc.val 46 (I (↑(nP m) : Int)) (H.mk [] (T ++ tk (ic (mx m G))) [])), Ans.o (Orc.val 48 (AV.sl (ints (lst (cls (fm (mx m G))))) (lst (cls (fm (mx m G)))).length (rn (lst (cls (fm (mx m G)))))) (H.mk [] (T ++ tk (ic (mx m G))) [])), Ans.o (Orc.b false)]] ∧ (∀ (y : Unit), True → ∀ (u : Nat → AV), aCall (Sof [c50.to, c23i.to, c98.to]) (AV.fn (Fn.func (50 : Nat)) [] []) [I (↑m : Int)] (H.mk [] (T ++ tk (ic (mx m G))) []) = some (I (↑(nP m) : Int), H.mk [] (T ++ tk (ic (mx m G))) []) ∧ aCall (Sof [c50.to, c23i.to, c98.to]) (AV.fn (Fn.func (23 : Nat)) [] []) [I (↑(nP m) : Int), AV.sl (ints (ic (mx m G))) (ic (mx m G)).length (rm T.length (ic (mx m G)))] (H.mk [] (T ++ tk (ic (mx m G))) []) = some (AV.sl (ints (lst (cls (fm (mx m G))))) (lst (cls (fm (mx m G)))).length (rn (lst (cls (fm (mx m G))))), H.mk [] (T ++ tk (ic (mx m G))) []) ∧ (↑(lst (cls (fm (mx m G)))).length : Int) ≠ (↑(lst G).length : Int) ∧ (56 : Nat) = (56 : Nat) ∧ j < (65 : Nat) ∧ Keep (tkI (H.mk [] (T ++ tk (ic (mx m G))) []) ∧ [I (↑m : Int), AV.sl (ints (lst (cls (fm (mx m G))))) (lst (cls (fm (mx m G)))).length (rn (lst (cls (fm (mx m G)))))] = [I (↑m : Int), AV.sl (ints (lst (itS m (cls F) (j + (1 : Nat))))) (lst (itS m (cls F) (j + (1 : Nat)))).length (rn (lst (itS m (cls F) (j + (1 : Nat)))))] ∧ j + (1 : Nat) ≤ (elts (itS m (cls F) (j + (1 : Nat)))).length)) ∧ True) (by kernel_rfl) ?_⟩
    refine ⟨hin, ?_⟩
    refine And.intro ?_ ?_
    · skip
      intro y
      intro w1
      intro u
      refine ⟨acall_hit (c := c50.to) m _ rfl hm, ?_⟩
      refine ⟨acall_hit (c := c23i.to) (nP m, mx m G, rm T.length (ic (mx m G))) _ rfl p23, ?_⟩
      refine ⟨by first | with_reducible assumption | omega | assumption, ?_⟩
      refine ⟨by first | with_reducible assumption | omega | assumption, ?_⟩
      refine ⟨by first | with_reducible assumption | omega | assumption, ?_⟩
      exact ⟨⟨_, rfl⟩, by rw [hnx], by rw [hnx]; exact hj'⟩
    · skip
      trivial
theorem ok51 : FokM Tryd.prog none1 51 Tryd.f51 := ⟨mixed, by kernel_rfl, by kernel_rfl, by kernel_rfl, by kernel_rfl⟩
theorem r51 (m : Nat) (k : List Nat) (r : Room) (hp : (2 ≤ m ∧ m ≤ 4) ∧ rok (ic k) r ∧ okS (nP m : Nat) (ic k)) : Body ⟨Tryd.prog, Sof (P := Tryd.prog) [c50.to, c23i.to, c98.to], Pof (P := Tryd.prog) [], H.nil.base, 300⟩ none1 Tryd.f51 [I m, ls (ic k) r] .nil (ls (lst (spV m (fm k))) (rn (lst (spV m (fm k)))), .nil) := by
  have hn6 := nP_6 hp.1.2
  have hoks := hp.2.2.2.2
  have hrg := oks_rg hoks
  rw [nl_ic, Int.toNat_natCast] at hrg
  rw [Int.toNat_natCast] at hoks
  have hll := hp.2.2.2.1
  have p23 : (nP m ≤ 6 ∧ lim (ic k).length) ∧ rok (ic k) r ∧ oks (nP m) (ic k) := ⟨⟨hn6, by simp only [lim]; omega⟩, hp.2.1, hoks⟩
  have hl := lp51 m (fm k) hp.1 hrg
  refine body_s ([Ans.o (Orc.val 13 (I (↑(nP m) : Int)) (H.mk [] [] [])), Ans.o (Orc.val 15 (AV.sl (ints (lst (cls (fm k)))) (lst (cls (fm k))).length (rn (lst (cls (fm k))))) (H.mk [] [] [])), Ans.loop [(0 : Nat), (5 : Nat)] [Out.mk (List Nat) AX.ret [(4 : Nat)] (fun x => True) (fun x => [fA5 (spV m (fm k))]) (fun T => H.mk [] T []) fun y => []]]) (aCall (Sof [c50.to, c23i.to, c98.to]) (AV.fn (Fn.func (50 : Nat)) [] []) [I (↑m : Int)] (H.mk [] [] []) = some (I (↑(nP m) : Int), H.mk [] [] []) ∧ aCall (Sof [c50.to, c23i.to, c98.to]) (AV.fn (Fn.func (23 : Nat)) [] []) [I (↑(nP m) : Int), AV.sl (ints (ic k)) (ic k).length r] (H.mk [] [] []) = some (AV.sl (ints (lst (cls (fm k)))) (lst (cls (fm k))).length (rn (lst (cls (fm k)))), H.mk [] [] []) ∧ LoopS (Env.mk Tryd.prog (Sof [c50.to, c23i.to, c98.to]) (Pof (P := Tryd.prog) []) H.nil.base (300 : Nat)) (loopAt Tryd.f51 (0 : Nat)) (56 : Nat) [(0 : Nat), (5 : Nat)] [I (↑m : Int), AV.sl (ints (lst (cls (fm k)))) (lst (cls (fm k))).length (rn (lst (cls (fm k))))] (H.mk [] [] []) [Out.mk (List Nat) AX.ret [(4 : Nat)] (fun x => True) (fun x => [fA5 (spV m (fm k))]) (fun T => H.mk [] T []) fun y => []] ∧ (∀ (y : List Nat), True → ∀ (u : Nat → AV), leave (Base.mk H.nil.blk.length H.nil.toks.length H.nil.maps.length) (AV.sl (ints (lst (spV m (fm k)))) (lst (spV m (fm k))).length (rn (lst (spV m (fm k))))) (H.mk [] y []) = (AV.sl (ints (lst (spV m (fm k)))) (lst (spV m (fm k))).length (rn (lst (spV m (fm k)))), H.mk [] [] [])) ∧ True) (by kernel_rfl) ?_
  refine ⟨acall_hit (c := c50.to) m _ rfl hp.1, ?_⟩
  refine ⟨acall_hit (c := c23i.to) (nP m, k, r) _ rfl p23, ?_⟩
  refine ⟨hl, ?_⟩
  refine And.intro ?_ ?_
  · skip
    intro y
    intro w1
    intro u
    exact leave_ts _ (by simp [AV.bnd, AV.bnds, rm_wk_bnd])
  · skip
    trivial
noncomputable def c51 : PCtr Tryd.prog := sctr ok51 (X := Nat × List Nat × Room) (fun x => [I x.1, ls (ic x.2.1) x.2.2]) (fun x => (2 ≤ x.1 ∧ x.1 ≤ 4) ∧ rok (ic x.2.1) x.2.2 ∧ okS (nP x.1 : Nat) (ic x.2.1)) (fun x => ls (lst (spV x.1 (fm x.2.1))) (rn (lst (spV x.1 (fm x.2.1))))) (by intro x y e _ _; simp [Int.natCast_inj] at e; simp [e]) (fun x => by simp [AV.bnds, AV.bnd, AV.wk, rm_wk_bnd]) (fun x => by first | rfl | (simp [AV.bnd, rm_wk_bnd]; done)  | (simp [AV.bnd, AV.bnds, rm_wk_bnd]; done) | simp [AV.bnd, AV.bnds, Room.bnd, rm_wk_bnd]) (fun x hx => ⟨_, _, _, .pure c50 (.pure c23i (.pure c98 (.nil))), r51 (x.1) (x.2.1) (x.2.2).wk (by first | exact hx | (simp only [rok_wk]; exact hx) | (simp only [rok_wk, lst_wk]; exact hx) | (simp only [rok_wk, lst_wk, lsn_wk]; exact hx))⟩)
end Go.Proofs.Evd

