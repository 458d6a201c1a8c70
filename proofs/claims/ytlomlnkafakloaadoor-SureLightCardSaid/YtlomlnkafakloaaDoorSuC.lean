/- Layer 5: the words of pairs. -/
import Derived.Test.YtlomlnkafakloaaDoorSuB
import Derived.Test.YtlomlnkafakloaaDoorSuT
import Derived.KernelRfl
set_option linter.unusedSimpArgs false
set_option linter.unusedVariables false
set_option linter.unnecessarySimpa false
set_option maxHeartbeats 4000000
set_option maxRecDepth 100000
namespace Go.Proofs.Sur
open Go Go.VM

def prW (x y : W) (n : Nat) : W := (bits x).foldl (fun s t => s ||| y <<< (t * n)) 0#64
def prV (a b : List W) : List W := a.flatMap fun x => b.map fun y => prW x y b.length
abbrev inW (l : List W) (n : Nat) : Prop := ∀ i, i < l.length → ∀ k, (wt_ l i).getLsbD k = true → k < n
abbrev wacc (l : List W) : AV := .sl (u64s l) l.length (rm 0 l)
abbrev whc (l : List W) : H := ⟨[], tk l, []⟩
theorem cl_0 (b : W) (k : Nat) (h : (cl b).getLsbD k = true) : b.getLsbD k = true := by
  have hk : k < 64 := by
    refine Classical.byContradiction fun hc => ?_
    rw [BitVec.getLsbD_of_ge _ k (by omega)] at h; cases h
  exact ((cl_bit b hk).1 h).1
theorem i_mul {a b : Nat} (h : a * b ≤ 64) : IntKind.i64.wrap ((a : Int) * (b : Int)) = ((a * b : Nat) : Int) := by
  have : (a : Int) * (b : Int) = ((a * b : Nat) : Int) := by simp
  rw [this]; exact i_wrap (by omega)
abbrev o77c (b : List W) (r : Room) (x y : W) (l : List W) (x1 x2 x3 x4 x5 x6 : AV) : List Out :=
  [.mk Unit (.exit 4) [1, 5, 7, 10, 12, 13, 14, 18, 19, 20] (fun _ => True) (fun _ => [ws b r, wacc l, u64A x, u64A (prW x y b.length), x1, x2, x3, x4, x5, x6]) (fun _ => whc l) (fun _ => [])]
theorem simp77c : allSimpleM none1 (loopAt Tryd.f77 2) = true := by kernel_rfl
theorem lp77c (b : List W) (r : Room) (x y : W) (l : List W) (x1 x2 x3 x4 x5 x6 : AV) (n : Nat) (hx : ∀ k, x.getLsbD k = true → k < n) (hn : n * b.length ≤ 64) :
    LoopS (En6 [c97.to]) (loopAt Tryd.f77 2) 47 [1, 5, 7, 9, 10, 11, 12, 13, 14, 18, 19, 20] [ws b r, wacc l, u64A x, u64A y, u64A 0#64, u64A x, x1, x2, x3, x4, x5, x6] (whc l) (o77c b r x y l x1 x2 x3 x4 x5 x6) := by
  have hR : Rests (En6 [c97.to]) none1 := rests mixed (.pure _ .nil)
  refine loop_s hR simp77c none (by intro _ h; cases h) (fun j vs h => ∃ s t : W, h = whc l ∧ vs = [ws b r, wacc l, u64A x, u64A y, u64A s, u64A t, x1, x2, x3, x4, x5, x6] ∧ (bits t).foldl (fun s t => s ||| y <<< (t * b.length)) s = prW x y b.length ∧ (∀ k, t.getLsbD k = true → k < n) ∧ (bits t).length + j ≤ 64) 64 ⟨0#64, x, rfl, rfl, rfl, hx, by have := bits_len x; omega⟩ (by intro _ h; cases h) ?_
  rintro j vs h hj ⟨s, t, rfl, rfl, ha, hb, hc⟩
  by_cases hz : t = 0#64
  · have hu : (t.toNat : Int) = 0 := (w_eq0 t).2 hz
    have he : s = prW x y b.length := by rw [← ha, hz, bits_0]; rfl
    subst he
    refine ⟨[Ans.o (Orc.b false)], fun u => of_eq ((↑(BitVec.toNat t) : Int) = (0 : Int) ∧ (47 : Nat) = (47 : Nat) ∧ hits [Out.mk Unit (AX.exit 4) [1, 5, 7, 10, 12, 13, 14, 18, 19, 20] (fun x => True) (fun x_1 => [ws b r, wacc l, u64A x, u64A (prW x y b.length), x1, x2, x3, x4, x5, x6]) (fun x => whc l) fun x => []] (AX.exit 4) [u (0 : Nat), AV.sl (u64s b) b.length r, u (2 : Nat), u (3 : Nat), u (4 : Nat), AV.sl (u64s l) l.length (rm (0 : Nat) l), u (6 : Nat), u64A x, u (8 : Nat), u64A y, u64A (prW x y b.length), u64A t, x1, x2, x3, u (15 : Nat), u (16 : Nat), u (17 : Nat), x4, x5, x6, u (21 : Nat), u (22 : Nat), u (23 : Nat), u (24 : Nat), u64A t, AV.bool false, u (27 : Nat), u (28 : Nat), u (29 : Nat), u (30 : Nat), u (31 : Nat), u (32 : Nat), u (33 : Nat), u (34 : Nat), u (35 : Nat), u (36 : Nat), u (37 : Nat), u (38 : Nat), u (39 : Nat), u (40 : Nat), u (41 : Nat), u (42 : Nat), u (43 : Nat), u (44 : Nat), u (45 : Nat), u (46 : Nat)] (H.mk [] (tk l) [])) (by kernel_rfl) ?_⟩
    refine ⟨by first | with_reducible assumption | omega | assumption, ?_⟩
    refine ⟨by first | with_reducible assumption | omega | assumption, ?_⟩
    exact .inl ⟨(), trivial, rfl, rfl, rfl⟩
  · have hu : (t.toNat : Int) ≠ 0 := fun h => hz ((w_eq0 t).1 h)
    obtain ⟨t1, t2, _⟩ := tz_ok hz
    have htn := hb _ t1
    have hm : tz t * b.length ≤ 64 := Nat.le_trans (Nat.mul_le_mul_right _ (by omega)) hn
    have ev0 := i_mul hm
    have ev1 := w_shl y hm
    have ev2 := w_or s (y <<< (tz t * b.length))
    have ev3 := sub_nat t
    have ev4 := w_and t (t - 1#64)
    have hs := bits_cons hz
    rw [hs] at ha hc
    have hc : (bits (cl t)).length + (j + 1) ≤ 64 := by rw [List.length_cons] at hc; omega
    have hj2 : j < 64 := by omega
    have hb' : ∀ k, (cl t).getLsbD k = true → k < n := fun k hk => hb k (cl_0 t k hk)
    clear hs hb hn
    refine ⟨[Ans.o (Orc.b true), Ans.o (Orc.val 34 (I (↑(tz t) : Int)) (H.mk [] (tk l) [])), Ans.o (Orc.val 37 (I (↑(tz t * b.length) : Int)) H.nil), Ans.o (Orc.val 38 (AV.int IntKind.u64 (↑(y <<< (tz t * b.length)).toNat : Int)) H.nil), Ans.o (Orc.val 39 (AV.int IntKind.u64 (↑(BitVec.toNat (s ||| y <<< (tz t * b.length))) : Int)) H.nil), Ans.o (Orc.val 29 (AV.int IntKind.u64 (↑(BitVec.toNat (t - BitVec.ofNat (64 : Nat) (1 : Nat))) : Int)) H.nil), Ans.o (Orc.val 30 (AV.int IntKind.u64 (↑(BitVec.toNat (t &&& t - BitVec.ofNat (64 : Nat) (1 : Nat))) : Int)) H.nil)], fun u => of_eq ((↑(BitVec.toNat t) : Int) ≠ (0 : Int) ∧ aCall (Sof [c97.to]) (AV.fn (Fn.func 97) [] []) [u64A t] (H.mk [] (tk l) []) = some (I (↑(tz t) : Int), H.mk [] (tk l) []) ∧ aBin Tryd.prog BinOp.mul (3 : Nat) (I (↑(tz t) : Int)) (I (↑b.length : Int)) = some (I (↑(tz t * b.length) : Int)) ∧ aBin Tryd.prog BinOp.shl (71 : Nat) (u64A y) (I (↑(tz t * b.length) : Int)) = some (AV.int IntKind.u64 (↑(y <<< (tz t * b.length)).toNat : Int)) ∧ aBin Tryd.prog BinOp.or (71 : Nat) (u64A s) (AV.int IntKind.u64 (↑(y <<< (tz t * b.length)).toNat : Int)) = some (AV.int IntKind.u64 (↑(BitVec.toNat (s ||| y <<< (tz t * b.length))) : Int)) ∧ aBin Tryd.prog BinOp.sub (71 : Nat) (u64A t) (AV.int IntKind.u64 (1 : Int)) = some (AV.int IntKind.u64 (↑(BitVec.toNat (t - BitVec.ofNat (64 : Nat) (1 : Nat))) : Int)) ∧ aBin Tryd.prog BinOp.and (71 : Nat) (u64A t) (AV.int IntKind.u64 (↑(BitVec.toNat (t - BitVec.ofNat (64 : Nat) (1 : Nat))) : Int)) = some (AV.int IntKind.u64 (↑(BitVec.toNat (t &&& t - BitVec.ofNat (64 : Nat) (1 : Nat))) : Int)) ∧ (47 : Nat) = (47 : Nat) ∧ j < (64 : Nat) ∧ Keep (∃ s_1 t_1, H.mk [] (tk l) [] = H.mk [] (tk l) [] ∧ [AV.sl (u64s b) b.length r, AV.sl (u64s l) l.length (rm (0 : Nat) l), u64A x, u64A y, AV.int IntKind.u64 (↑(BitVec.toNat (s ||| y <<< (tz t * b.length))) : Int), AV.int IntKind.u64 (↑(BitVec.toNat (t &&& t - BitVec.ofNat (64 : Nat) (1 : Nat))) : Int), x1, x2, x3, x4, x5, x6] = [AV.sl (u64s b) b.length r, AV.sl (u64s l) l.length (rm (0 : Nat) l), u64A x, u64A y, u64A s_1, u64A t_1, x1, x2, x3, x4, x5, x6] ∧ List.foldl (fun s t => s ||| y <<< (t * b.length)) s_1 (bits t_1) = prW x y b.length ∧ (∀ (k : Nat), BitVec.getLsbD t_1 k = true → k < n) ∧ (bits t_1).length + (j + (1 : Nat)) ≤ (64 : Nat))) (by kernel_rfl) ?_⟩
    refine ⟨by first | with_reducible assumption | omega | assumption, ?_⟩
    refine ⟨acall_hit (c := c97.to) t _ rfl hz, ?_⟩
    refine ⟨told_mul (by with_reducible assumption), ?_⟩
    refine ⟨by first | exact told_shl (by first | exact Int.natCast_nonneg _ | omega) (by with_reducible assumption) | exact told_shl (by omega) rfl, ?_⟩
    refine ⟨told_or (by with_reducible assumption), ?_⟩
    refine ⟨told_sub (by with_reducible assumption), ?_⟩
    refine ⟨told_and (by with_reducible assumption), ?_⟩
    refine ⟨by first | with_reducible assumption | omega | assumption, ?_⟩
    refine ⟨by first | with_reducible assumption | omega | assumption, ?_⟩
    exact ⟨_, cl t, rfl, rfl, ha, hb', hc⟩
abbrev o77b (b : List W) (r : Room) (x : W) (l : List W) (x1 x2 x3 : AV) : List Out :=
  [.mk Unit (.exit 2) [1, 5, 12, 13, 14] (fun _ => True) (fun _ => [ws b r, wacc (l ++ b.map fun y => prW x y b.length), x1, x2, x3]) (fun _ => whc (l ++ b.map fun y => prW x y b.length)) (fun _ => [])]
theorem simp77b : allSimpleM none1 (loopAt Tryd.f77 1) = true := by kernel_rfl
theorem take_map {α β : Type} (f : α → β) (b : List α) (d : α) {j : Nat} (h : j < b.length) : (b.take (j + 1)).map f = (b.take j).map f ++ [f (b.getD j d)] := by
  rw [List.take_add_one, List.getElem?_eq_getElem h]
  have e : b.getD j d = b[j] := by simp [List.getD_eq_getElem?_getD, List.getElem?_eq_getElem h]
  rw [e]; simp only [Option.toList_some, List.map_append, List.map_cons, List.map_nil]
theorem lp77b (b : List W) (r : Room) (hr : rok b r) (x : W) (l : List W) (x1 x2 x3 : AV) (n : Nat) (hx : ∀ k, x.getLsbD k = true → k < n) (hn : n * b.length ≤ 64) (hb : b.length ≤ 64) (hl : l.length ≤ 1000) :
    LoopS (En6 [c97.to]) (loopAt Tryd.f77 1) 47 [1, 5, 7, 12, 13, 14, 18, 19, 20] [ws b r, wacc l, u64A x, x1, x2, x3, ws b r, I b.length, I 0] (whc l) (o77b b r x l x1 x2 x3) := by
  have hR : Rests (En6 [c97.to]) none1 := rests mixed (.pure _ .nil)
  refine loop_s hR simp77b none (by intro _ h; cases h) (fun j vs h => h = whc (l ++ (b.take j).map fun y => prW x y b.length) ∧ vs = [ws b r, wacc (l ++ (b.take j).map fun y => prW x y b.length), u64A x, x1, x2, x3, ws b r, I b.length, I j]) b.length ⟨by simp, by simp⟩ (by intro _ h; cases h) ?_
  rintro j vs h hj ⟨rfl, rfl⟩
  generalize hL : l ++ (b.take j).map (fun y => prW x y b.length) = m
  have hm : m.length ≤ 1000000 := by rw [← hL]; simp; omega
  by_cases hz : (j : Int) < b.length
  · have hz' : j < b.length := by omega
    have hr' := rok_idx hr hz'
    have hs : l ++ (b.take (j + 1)).map (fun y => prW x y b.length) = m ++ [prW x (wt_ b j) b.length] := by rw [take_map _ b w0 hz', ← hL, List.append_assoc]
    refine ⟨[Ans.o (Orc.b true), Ans.o (Orc.val 22 (AV.cptr (u64s (List.drop j b))) H.nil), Ans.o (Orc.val 23 (u64A (b.getD j w0)) H.nil), Ans.loop [1, 5, 7, 9, 10, 11, 12, 13, 14, 18, 19, 20] [Out.mk Unit (AX.exit 4) [1, 5, 7, 10, 12, 13, 14, 18, 19, 20] (fun x => True) (fun x_1 => [ws b r, wacc m, u64A x, u64A (prW x (wt_ b j) b.length), x1, x2, x3, ws b r, I (↑b.length : Int), I (↑j : Int)]) (fun x => whc m) fun y => [Ans.o (Orc.val 43 (AV.sl (u64s (m ++ [prW x (wt_ b j) b.length])) (m ++ [prW x (wt_ b j) b.length]).length (rm (0 : Nat) (m ++ [prW x (wt_ b j) b.length]))) (H.mk [] (tk (m ++ [prW x (wt_ b j) b.length])) []))]]], fun u => of_eq ((↑j : Int) < (↑b.length : Int) ∧ aIndexAddr Tryd.prog 66 (AV.sl (u64s b) b.length r) (I (↑j : Int)) = some (AV.cptr (u64s (List.drop j b))) ∧ aLoad Tryd.prog 71 (u64s (List.drop j b)) = some (u64A (b.getD j w0)) ∧ LoopS (En6 [c97.to]) (loopAt Tryd.f77 2) 47 [1, 5, 7, 9, 10, 11, 12, 13, 14, 18, 19, 20] [AV.sl (u64s b) b.length r, AV.sl (u64s m) m.length (rm (0 : Nat) m), u64A x, u64A (b.getD j w0), AV.int IntKind.u64 (0 : Int), u64A x, x1, x2, x3, AV.sl (u64s b) b.length r, I (↑b.length : Int), I (↑j : Int)] (H.mk [] (tk m) []) [Out.mk Unit (AX.exit 4) [1, 5, 7, 10, 12, 13, 14, 18, 19, 20] (fun x => True) (fun x_1 => [ws b r, wacc m, u64A x, u64A (prW x (wt_ b j) b.length), x1, x2, x3, ws b r, I (↑b.length : Int), I (↑j : Int)]) (fun x => whc m) fun y => [Ans.o (Orc.val 43 (AV.sl (u64s (m ++ [prW x (wt_ b j) b.length])) (m ++ [prW x (wt_ b j) b.length]).length (rm (0 : Nat) (m ++ [prW x (wt_ b j) b.length]))) (H.mk [] (tk (m ++ [prW x (wt_ b j) b.length])) []))]] ∧ (∀ (y : Unit), True → ∀ (u : Nat → AV), aAppend Tryd.prog 66 (66 : Nat) (AV.sl (u64s m) m.length (rm (0 : Nat) m)) (AV.sl [AV.int IntKind.u64 (↑(BitVec.toNat (prW x (wt_ b j) b.length)) : Int)] (1 : Nat) Room.full) (H.mk [] (tk m) []) = some (AV.sl (u64s (m ++ [prW x (wt_ b j) b.length])) (m ++ [prW x (wt_ b j) b.length]).length (rm (0 : Nat) (m ++ [prW x (wt_ b j) b.length])), H.mk [] (tk (m ++ [prW x (wt_ b j) b.length])) []) ∧ IntKind.i64.wrap ((↑j : Int) + (1 : Int)) = (↑j : Int) + (1 : Int) ∧ (47 : Nat) = (47 : Nat) ∧ j < b.length ∧ Keep (H.mk [] (tk (m ++ [prW x (wt_ b j) b.length])) [] = H.mk [] (tk (l ++ List.map (fun y => prW x y b.length) (List.take (j + (1 : Nat)) b))) [] ∧ [AV.sl (u64s b) b.length r, AV.sl (u64s (m ++ [prW x (wt_ b j) b.length])) (m ++ [prW x (wt_ b j) b.length]).length (rm (0 : Nat) (m ++ [prW x (wt_ b j) b.length])), u64A x, x1, x2, x3, AV.sl (u64s b) b.length r, I (↑b.length : Int), I ((↑j : Int) + (1 : Int))] = [AV.sl (u64s b) b.length r, AV.sl (u64s (l ++ List.map (fun y => prW x y b.length) (List.take (j + (1 : Nat)) b))) (l ++ List.map (fun y => prW x y b.length) (List.take (j + (1 : Nat)) b)).length (rm (0 : Nat) (l ++ List.map (fun y => prW x y b.length) (List.take (j + (1 : Nat)) b))), u64A x, x1, x2, x3, AV.sl (u64s b) b.length r, I (↑b.length : Int), I (↑(j + (1 : Nat)) : Int)])) ∧ True) (by kernel_rfl) ?_⟩
    refine ⟨by first | with_reducible assumption | omega | assumption, ?_⟩
    refine ⟨by first | exact ix_u64s (by kernel_rfl) (by omega) (by assumption) | exact ix_u64s (by kernel_rfl) (by omega) (rok_idx (by assumption) (by omega)), ?_⟩
    refine ⟨by first | exact ld_u64s (by kernel_rfl) (by kernel_rfl) (by omega) | exact ldm_u64s (by kernel_rfl) (by kernel_rfl) (by first | omega | (simp; omega)), ?_⟩
    refine ⟨lp77c b r x (wt_ b j) m x1 x2 x3 (ws b r) (I b.length) (I j) n hx hn, ?_⟩
    refine And.intro ?_ ?_
    · skip
      intro y
      intro w1
      intro u
      refine ⟨app_u64s (by kernel_rfl) (by omega), ?_⟩
      refine ⟨wr _ (by omega) (by omega), ?_⟩
      refine ⟨by first | with_reducible assumption | omega | assumption, ?_⟩
      refine ⟨by first | with_reducible assumption | omega | assumption, ?_⟩
      exact ⟨by rw [hs], by rw [hs]; rfl⟩
    · skip
      trivial
  · have hz : (b.length : Int) ≤ j := by omega
    have hj' : j = b.length := by omega
    subst hj'
    rw [List.take_length] at hL
    subst hL
    refine ⟨[Ans.o (Orc.b false)], fun u => of_eq ((↑b.length : Int) ≤ (↑b.length : Int) ∧ (47 : Nat) = (47 : Nat) ∧ hits [Out.mk Unit (AX.exit 2) [1, 5, 12, 13, 14] (fun x => True) (fun x_1 => [ws b r, wacc (l ++ List.map (fun y => prW x y b.length) b), x1, x2, x3]) (fun x_1 => whc (l ++ List.map (fun y => prW x y b.length) b)) fun x => []] (AX.exit 2) [u (0 : Nat), AV.sl (u64s b) b.length r, u (2 : Nat), u (3 : Nat), u (4 : Nat), AV.sl (u64s (l ++ List.map (fun y => prW x y b.length) b)) (l ++ List.map (fun y => prW x y b.length) b).length (rm (0 : Nat) (l ++ List.map (fun y => prW x y b.length) b)), u (6 : Nat), u64A x, u (8 : Nat), u (9 : Nat), u (10 : Nat), u (11 : Nat), x1, x2, x3, u (15 : Nat), u (16 : Nat), u (17 : Nat), AV.sl (u64s b) b.length r, I (↑b.length : Int), I (↑b.length : Int), AV.bool false, u (22 : Nat), u (23 : Nat), u (24 : Nat), u (25 : Nat), u (26 : Nat), u (27 : Nat), u (28 : Nat), u (29 : Nat), u (30 : Nat), u (31 : Nat), u (32 : Nat), u (33 : Nat), u (34 : Nat), u (35 : Nat), u (36 : Nat), u (37 : Nat), u (38 : Nat), u (39 : Nat), u (40 : Nat), u (41 : Nat), u (42 : Nat), u (43 : Nat), u (44 : Nat), u (45 : Nat), u (46 : Nat)] (H.mk [] (tk (l ++ List.map (fun y => prW x y b.length) b)) [])) (by kernel_rfl) ?_⟩
    refine ⟨by first | with_reducible assumption | omega | assumption, ?_⟩
    refine ⟨by first | with_reducible assumption | omega | assumption, ?_⟩
    exact .inl ⟨(), trivial, rfl, rfl, rfl⟩
abbrev o77a (a b : List W) : List Out :=
  [.mk Unit (.exit 0) [5] (fun _ => True) (fun _ => [wacc (prV a b)]) (fun _ => whc (prV a b)) (fun _ => [])]
theorem simp77a : allSimpleM none1 (loopAt Tryd.f77 0) = true := by kernel_rfl
theorem take_flat {α β : Type} (f : α → List β) (b : List α) (d : α) {j : Nat} (h : j < b.length) : (b.take (j + 1)).flatMap f = (b.take j).flatMap f ++ f (b.getD j d) := by
  rw [List.take_add_one, List.getElem?_eq_getElem h]
  have e : b.getD j d = b[j] := by simp [List.getD_eq_getElem?_getD, List.getElem?_eq_getElem h]
  rw [e]; simp only [Option.toList_some, List.flatMap_append, List.flatMap_cons, List.flatMap_nil, List.append_nil]
@[simp] theorem prV_len (a b : List W) : (prV a b).length = a.length * b.length := by
  induction a with
  | nil => simp [prV]
  | cons x a ih => simp only [prV, List.flatMap_cons, List.length_append, List.length_map, List.length_cons] at *; rw [ih, Nat.succ_mul, Nat.add_comm]
theorem lp77a (a b : List W) (ra rb : Room) (hra : rok a ra) (hrb : rok b rb) (ha : inW a a.length) (hn : a.length * b.length ≤ 64) (ha64 : a.length ≤ 64) (hb : b.length ≤ 64) :
    LoopS (En6 [c97.to]) (loopAt Tryd.f77 0) 47 [1, 5, 12, 13, 14] [ws b rb, .sl [] 0 .nil, ws a ra, I a.length, I 0] .nil (o77a a b) := by
  have hR : Rests (En6 [c97.to]) none1 := rests mixed (.pure _ .nil)
  refine loop_s hR simp77a none (by intro _ h; cases h) (fun j vs h => h = whc (prV (a.take j) b) ∧ vs = [ws b rb, wacc (prV (a.take j) b), ws a ra, I a.length, I j]) a.length ⟨rfl, rfl⟩ (by intro _ h; cases h) ?_
  rintro j vs h hj ⟨rfl, rfl⟩
  by_cases hz : (j : Int) < a.length
  · have hz' : j < a.length := by omega
    have hr' := rok_idx hra hz'
    have hl : (prV (a.take j) b).length ≤ 1000 := by
      rw [prV_len, List.length_take]
      have := Nat.mul_le_mul_right b.length (Nat.min_le_right j a.length)
      omega
    have hs : prV (a.take (j + 1)) b = prV (a.take j) b ++ b.map fun y => prW (wt_ a j) y b.length := take_flat _ a w0 hz'
    have hx := ha j hz'
    generalize prV (a.take j) b = m at hl hs
    refine ⟨[Ans.o (Orc.b true), Ans.o (Orc.val 16 (AV.cptr (u64s (List.drop j a))) H.nil), Ans.o (Orc.val 17 (u64A (a.getD j w0)) H.nil), Ans.loop [1, 5, 7, 12, 13, 14, 18, 19, 20] [Out.mk Unit (AX.exit 2) [1, 5, 12, 13, 14] (fun x => True) (fun x => [ws b rb, wacc (m ++ List.map (fun y => prW (wt_ a j) y b.length) b), ws a ra, I (↑a.length : Int), I (↑j : Int)]) (fun x => whc (m ++ List.map (fun y => prW (wt_ a j) y b.length) b)) fun y => []]], fun u => of_eq ((↑j : Int) < (↑a.length : Int) ∧ aIndexAddr Tryd.prog 66 (AV.sl (u64s a) a.length ra) (I (↑j : Int)) = some (AV.cptr (u64s (List.drop j a))) ∧ aLoad Tryd.prog 71 (u64s (List.drop j a)) = some (u64A (a.getD j w0)) ∧ LoopS (En6 [c97.to]) (loopAt Tryd.f77 1) 47 [1, 5, 7, 12, 13, 14, 18, 19, 20] [AV.sl (u64s b) b.length rb, AV.sl (u64s m) m.length (rm (0 : Nat) m), u64A (a.getD j w0), AV.sl (u64s a) a.length ra, I (↑a.length : Int), I (↑j : Int), AV.sl (u64s b) b.length rb, I (↑b.length : Int), I 0] (H.mk [] (tk m) []) [Out.mk Unit (AX.exit 2) [1, 5, 12, 13, 14] (fun x => True) (fun x => [ws b rb, wacc (m ++ List.map (fun y => prW (wt_ a j) y b.length) b), ws a ra, I (↑a.length : Int), I (↑j : Int)]) (fun x => whc (m ++ List.map (fun y => prW (wt_ a j) y b.length) b)) fun y => []] ∧ (∀ (y : Unit), True → ∀ (u : Nat → AV), IntKind.i64.wrap ((↑j : Int) + (1 : Int)) = (↑j : Int) + (1 : Int) ∧ (47 : Nat) = (47 : Nat) ∧ j < a.length ∧ Keep (H.mk [] (tk (m ++ List.map (fun y => prW (wt_ a j) y b.length) b)) [] = H.mk [] (tk (prV (List.take (j + (1 : Nat)) a) b)) [] ∧ [AV.sl (u64s b) b.length rb, AV.sl (u64s (m ++ List.map (fun y => prW (wt_ a j) y b.length) b)) (m ++ List.map (fun y => prW (wt_ a j) y b.length) b).length (rm (0 : Nat) (m ++ List.map (fun y => prW (wt_ a j) y b.length) b)), AV.sl (u64s a) a.length ra, I (↑a.length : Int), I ((↑j : Int) + (1 : Int))] = [AV.sl (u64s b) b.length rb, AV.sl (u64s (prV (List.take (j + (1 : Nat)) a) b)) (prV (List.take (j + (1 : Nat)) a) b).length (rm (0 : Nat) (prV (List.take (j + (1 : Nat)) a) b)), AV.sl (u64s a) a.length ra, I (↑a.length : Int), I (↑(j + (1 : Nat)) : Int)])) ∧ True) (by kernel_rfl) ?_⟩
    refine ⟨by first | with_reducible assumption | omega | assumption, ?_⟩
    refine ⟨by first | exact ix_u64s (by kernel_rfl) (by omega) (by assumption) | exact ix_u64s (by kernel_rfl) (by omega) (rok_idx (by assumption) (by omega)), ?_⟩
    refine ⟨by first | exact ld_u64s (by kernel_rfl) (by kernel_rfl) (by omega) | exact ldm_u64s (by kernel_rfl) (by kernel_rfl) (by first | omega | (simp; omega)), ?_⟩
    refine ⟨lp77b b rb hrb (wt_ a j) m (ws a ra) (I a.length) (I j) a.length hx hn hb hl, ?_⟩
    refine And.intro ?_ ?_
    · skip
      intro y
      intro w1
      intro u
      refine ⟨wr _ (by omega) (by omega), ?_⟩
      refine ⟨by first | with_reducible assumption | omega | assumption, ?_⟩
      refine ⟨by first | with_reducible assumption | omega | assumption, ?_⟩
      exact ⟨by rw [hs], by rw [hs]; rfl⟩
    · skip
      trivial
  · have hz : (a.length : Int) ≤ j := by omega
    have hj' : j = a.length := by omega
    subst hj'
    rw [List.take_length]
    refine ⟨[Ans.o (Orc.b false)], fun u => of_eq ((↑a.length : Int) ≤ (↑a.length : Int) ∧ (47 : Nat) = (47 : Nat) ∧ hits [Out.mk Unit (AX.exit 0) [5] (fun x => True) (fun x => [wacc (prV a b)]) (fun x => whc (prV a b)) fun x => []] (AX.exit 0) [u (0 : Nat), AV.sl (u64s b) b.length rb, u (2 : Nat), u (3 : Nat), u (4 : Nat), AV.sl (u64s (prV a b)) (prV a b).length (rm (0 : Nat) (prV a b)), u (6 : Nat), u (7 : Nat), u (8 : Nat), u (9 : Nat), u (10 : Nat), u (11 : Nat), AV.sl (u64s a) a.length ra, I (↑a.length : Int), I (↑a.length : Int), AV.bool false, u (16 : Nat), u (17 : Nat), u (18 : Nat), u (19 : Nat), u (20 : Nat), u (21 : Nat), u (22 : Nat), u (23 : Nat), u (24 : Nat), u (25 : Nat), u (26 : Nat), u (27 : Nat), u (28 : Nat), u (29 : Nat), u (30 : Nat), u (31 : Nat), u (32 : Nat), u (33 : Nat), u (34 : Nat), u (35 : Nat), u (36 : Nat), u (37 : Nat), u (38 : Nat), u (39 : Nat), u (40 : Nat), u (41 : Nat), u (42 : Nat), u (43 : Nat), u (44 : Nat), u (45 : Nat), u (46 : Nat)] (H.mk [] (tk (prV a b)) [])) (by kernel_rfl) ?_⟩
    refine ⟨by first | with_reducible assumption | omega | assumption, ?_⟩
    refine ⟨by first | with_reducible assumption | omega | assumption, ?_⟩
    exact .inl ⟨(), trivial, rfl, rfl, rfl⟩
abbrev pok (a b : List W) : Prop := inW a a.length ∧ a.length * b.length ≤ 64 ∧ a.length ≤ 64 ∧ b.length ≤ 64
theorem leave_u64sn {l : List W} (h : l ≠ []) : leave ⟨0, 0, 0⟩ (wacc l) (whc l) = (.sl (u64s l) l.length (.tok 0 1), ⟨[], [l.length], []⟩) := by
  have := leave_u64sa (l := l)
  cases l with
  | nil => exact absurd rfl h
  | cons x l => exact this
theorem prV_ne {a b : List W} (h : a.length ≠ 0) (k : b.length ≠ 0) : prV a b ≠ [] := fun e => by
  have h1 := prV_len a b
  rw [e] at h1
  have := Nat.mul_pos (Nat.pos_of_ne_zero h) (Nat.pos_of_ne_zero k)
  simp at h1
  omega
theorem ok77 : FokM Tryd.prog none1 77 Tryd.f77 := ⟨mixed, by kernel_rfl, by kernel_rfl, by kernel_rfl, by kernel_rfl⟩
theorem r77 (a : List W) (ra : Room) (b : List W) (rb : Room) (hp : (pok a b ∧ rok a ra ∧ rok b rb) ∧ a.length ≠ 0 ∧ b.length ≠ 0) : Body ⟨Tryd.prog, Sof (P := Tryd.prog) [c97.to], Pof (P := Tryd.prog) [], H.nil.base, 300⟩ none1 Tryd.f77 [ws a ra, ws b rb] .nil (.sl (u64s (prV a b)) (prV a b).length (.tok 0 1), ⟨[], [(prV a b).length], []⟩) := by
  obtain ⟨⟨⟨h1, h2, h3, h4⟩, h5, h6⟩, h7, h8⟩ := hp
  have hne := prV_ne h7 h8
  refine body_s ([Ans.loop [1, 5, 12, 13, 14] [Out.mk Unit (AX.exit 0) [5] (fun x => True) (fun x => [wacc (prV a b)]) (fun x => whc (prV a b)) fun y => []]]) (LoopS (En6 [c97.to]) (loopAt Tryd.f77 0) 47 [1, 5, 12, 13, 14] [AV.sl (u64s b) b.length rb, AV.sl [] (0 : Nat) Room.nil, AV.sl (u64s a) a.length ra, I (↑a.length : Int), I 0] (H.mk [] [] []) [Out.mk Unit (AX.exit 0) [5] (fun x => True) (fun x => [wacc (prV a b)]) (fun x => whc (prV a b)) fun y => []] ∧ (∀ (y : Unit), True → ∀ (u : Nat → AV), leave (Base.mk H.nil.blk.length H.nil.toks.length H.nil.maps.length) (AV.sl (u64s (prV a b)) (prV a b).length (rm (0 : Nat) (prV a b))) (H.mk [] (tk (prV a b)) []) = (AV.sl (u64s (prV a b)) (prV a b).length (Room.tok 0 1), H.mk [] [(prV a b).length] [])) ∧ True) (by kernel_rfl) ?_
  refine ⟨lp77a a b ra rb h5 h6 h1 h2 h3 h4, ?_⟩
  refine And.intro ?_ ?_
  · skip
    intro y
    intro w1
    intro u
    exact leave_u64sn hne
  · skip
    trivial
noncomputable def c77 : PCtr Tryd.prog := slctr ok77 (X := List W × Room × List W × Room) (fun x => [ws x.1 x.2.1, ws x.2.2.1 x.2.2.2]) (fun x => (pok x.1 x.2.2.1 ∧ rok x.1 x.2.1 ∧ rok x.2.2.1 x.2.2.2) ∧ x.1.length ≠ 0 ∧ x.2.2.1.length ≠ 0) (fun x => ws (prV x.1 x.2.2.1) .no) (by intro x y e _ _; simp at e; simp [e]) (fun x => by simp [AV.bnds, AV.bnd, AV.wk, rm_wk_bnd]) (fun x => by first | rfl | (simp [AV.bnd, rm_wk_bnd]; done)  | (simp [AV.bnd, AV.bnds, rm_wk_bnd]; done) | simp [AV.bnd, AV.bnds, Room.bnd, rm_wk_bnd]) (fun x hx => ⟨_, _, _, .sl (u64s (prV x.1 x.2.2.1)) (prV x.1 x.2.2.1).length (.tok 0 1), [(prV x.1 x.2.2.1).length], .pure c97 (.nil), r77 (x.1) (x.2.1).wk (x.2.2.1) (x.2.2.2).wk (by first | exact hx | (simp only [rok_wk]; exact hx) | (simp only [rok_wk, lst_wk]; exact hx) | (simp only [rok_wk, lst_wk, lsn_wk]; exact hx)), by simp [AV.plain, AV.plains, plains_ints, plains_rows], by first | (simp only [AV.wkd, wkds_rows]; done) | (simp only [AV.wkd, wkds_ints]; done) | simp [AV.wkd, AV.wkds, Room.wk]⟩)
end Go.Proofs.Sur

