/- Layer 5: linear programs: which unknown comes in, which goes. -/
import Derived.Test.YtlomlnkafakloaaDoorSya
import Derived.KernelRfl
set_option linter.unusedSimpArgs false
set_option linter.unusedVariables false
set_option linter.unnecessarySimpa false
set_option maxHeartbeats 4000000
set_option maxRecDepth 100000
namespace Go.Proofs.Sur
open Go Go.VM

abbrev hG (n m : Nat) (R B : List Int) (s : Int) : H := ⟨[[I 0, I 0], ints R, qS 1 n m (.msl 3 0 m noCap 1) s, ints B], [], []⟩
noncomputable abbrev E4 (cs : List (Ctr Tryd.prog)) : Env := ⟨Tryd.prog, Sof (P := Tryd.prog) cs, Pof (P := Tryd.prog) [], ⟨4, 0, 0⟩, 300⟩
abbrev sml' (x : Int) : Prop := -5040 ≤ x ∧ x ≤ 5040
structure Eqs (n m : Nat) (R B : List Int) : Prop where
  nm : nm n m
  lenR : R.length = (m + 1) * wdt n m
  lenB : B.length = m
  cl : ∀ i c, i ≤ m → c ≤ n + m → sml' (R.getD (i * wdt n m + c) i0)
  bs : ∀ i, i < m → 0 ≤ B.getD i i0 ∧ B.getD i i0 < n + m
theorem mul_sml {a b : Int} (ha : sml' a) (hb : sml' b) : -26000000 ≤ a * b ∧ a * b ≤ 26000000 := by
  have h : (a * b).natAbs ≤ 5040 * 5040 := by
    rw [Int.natAbs_mul]; exact Nat.mul_le_mul (by obtain ⟨_, _⟩ := ha; omega) (by obtain ⟨_, _⟩ := hb; omega)
  omega
theorem wr_mul {a b : Int} (ha : sml' a) (hb : sml' b) : IntKind.i64.wrap (a * b) = a * b := by
  have := mul_sml ha hb
  exact wr _ (by omega) (by omega)
theorem wd_ix {n m : Nat} {R B : List Int} (h : Eqs n m R B) {i c : Nat} (hi : i ≤ m) (hc : c ≤ n + m) : i * wdt n m + c < R.length := by
  rw [h.lenR]; exact ix_lt hi (by simp only [wdt]; omega)
theorem w_pred {n m : Nat} (h : nm n m) : IntKind.i64.wrap (((wdt n m : Nat) : Int) - 1) = ((n + m : Nat) : Int) := by
  have h1 := wd_lt h
  have : ((wdt n m : Nat) : Int) - 1 = ((n + m : Nat) : Int) := by simp only [wdt]; omega
  rw [this]; exact i_wrap (by simp only [wdt] at h1; omega)
noncomputable abbrev g89 (n m : Nat) (hn : nm n m) : Ctr Tryd.prog := c89 2 1 n m (.inr rfl) (by decide) hn
theorem hsG (n m i : Nat) (R B : List Int) (s : Int) (hi : i ≤ m) : (∃ bas s', (hG n m R B s).blk[2]? = some (qS 1 n m bas s')) ∧ i ≤ m := ⟨⟨_, _, rfl⟩, hi⟩
theorem ok86 : FokM Tryd.prog none1 86 Tryd.f86 := ⟨mixed, by kernel_rfl, by kernel_rfl, by kernel_rfl, by kernel_rfl⟩
theorem simp86 : allSimpleM none1 (loopAt Tryd.f86 0) = true := by kernel_rfl
theorem ct86 (n m : Nat) (hn : nm n m) : Ctrs Tryd.prog none1 [g89 n m hn] := .rd _ (c89_reads ..) .nil
theorem lp86s (n m : Nat) (R B : List Int) (s : Int) (hn : nm n m) (h : Eqs n m R B) (e : Nat) (he : ent n m R = some e) :
    LoopS (E4 [g89 n m hn]) (loopAt Tryd.f86 0) 28 [17, 18, 19] [.msl 1 (m * wdt n m) (n + m) (wdt n m) 1, I (n + m : Nat), I 0] (hG n m R B s) [.mk Unit .ret [2] (fun _ => True) (fun _ => [I (e : Nat)]) (fun _ => hG n m R B s) (fun _ => [])] := by
  have hR : Rests (E4 [g89 n m hn]) none1 := rests mixed (ct86 n m hn)
  obtain ⟨e1, e2, e3⟩ := ent_some he
  have hnm := h.nm
  refine loop_s hR simp86 none (by intro _ h; cases h) (fun j vs H => H = hG n m R B s ∧ vs = [.msl 1 (m * wdt n m) (n + m) (wdt n m) 1, I (n + m : Nat), I (j : Nat)] ∧ j ≤ e) e ⟨rfl, rfl, Nat.zero_le _⟩ (by intro _ h; cases h) ?_
  rintro j vs H hj ⟨rfl, rfl, hle⟩
  have hz : (j : Int) < ((n + m : Nat) : Int) := by omega
  have hz' : j < n + m := by omega
  have hl1 := wd_ix h (i := m) (c := j) (by omega) (by omega)
  by_cases hje : j = e
  · subst hje
    have hc : (0 : Int) < R.getD (m * wdt n m + j) i0 := e2
    have hc : ¬ R.getD (m * wdt n m + j) i0 ≤ 0 := by omega
    have hc : (0 : Int) < R.getD (m * wdt n m + j) i0 := by omega
    refine ⟨[Ans.o (Orc.b true), Ans.o (Orc.val 22 (AV.ptr 1 (m * wdt n m + j)) H.nil), Ans.o (Orc.val 23 (I (R.getD (m * wdt n m + j) i0)) H.nil), Ans.o (Orc.b true)], fun u => of_eq ((↑j : Int) < (↑(n + m) : Int) ∧ aIndexAddr Tryd.prog 22 (AV.msl 1 (m * wdt n m) (n + m) (wdt n m) (1 : Nat)) (I (↑j : Int)) = some (AV.ptr 1 (m * wdt n m + j)) ∧ aLoad Tryd.prog 3 (List.drop (m * wdt n m + j) (ints R)) = some (I (R.getD (m * wdt n m + j) i0)) ∧ (0 : Int) < R.getD (m * wdt n m + j) i0 ∧ (28 : Nat) = (28 : Nat) ∧ hits [Out.mk Unit AX.ret [2] (fun x => True) (fun x => [I (↑j : Int)]) (fun x => hG n m R B s) fun x => []] AX.ret [u (0 : Nat), u (1 : Nat), I (↑j : Int), I (↑j : Int), I (R.getD (m * wdt n m + j) i0), u (5 : Nat), u (6 : Nat), u (7 : Nat), u (8 : Nat), u (9 : Nat), u (10 : Nat), u (11 : Nat), u (12 : Nat), u (13 : Nat), u (14 : Nat), u (15 : Nat), u (16 : Nat), AV.msl 1 (m * wdt n m) (n + m) (wdt n m) (1 : Nat), I (↑(n + m) : Int), I (↑j : Int), AV.bool true, I (↑j : Int), AV.ptr 1 (m * wdt n m + j), I (R.getD (m * wdt n m + j) i0), I (R.getD (m * wdt n m + j) i0), AV.bool true, I (↑j : Int), u (27 : Nat)] (hG n m R B s)) (by kernel_rfl) ?_⟩
    refine ⟨by first | with_reducible assumption | omega | assumption, ?_⟩
    refine ⟨ixm_map (by kernel_rfl) hz', ?_⟩
    refine ⟨ldm_ints (by kernel_rfl) (by kernel_rfl) hl1, ?_⟩
    refine ⟨by first | with_reducible assumption | omega | assumption, ?_⟩
    refine ⟨by first | with_reducible assumption | omega | assumption, ?_⟩
    exact .inl ⟨(), trivial, rfl, rfl, rfl⟩
  · have hc : R.getD (m * wdt n m + j) i0 ≤ 0 := e3 j (by omega)
    have ev0 := w_suc (i := j) (by obtain ⟨_, _, _⟩ := hnm; omega)
    refine ⟨[Ans.o (Orc.b true), Ans.o (Orc.val 22 (AV.ptr 1 (m * wdt n m + j)) H.nil), Ans.o (Orc.val 23 (I (R.getD (m * wdt n m + j) i0)) H.nil), Ans.o (Orc.b false), Ans.o (Orc.val 27 (I (↑(j + (1 : Nat)) : Int)) H.nil)], fun u => of_eq ((↑j : Int) < (↑(n + m) : Int) ∧ aIndexAddr Tryd.prog 22 (AV.msl 1 (m * wdt n m) (n + m) (wdt n m) (1 : Nat)) (I (↑j : Int)) = some (AV.ptr 1 (m * wdt n m + j)) ∧ aLoad Tryd.prog 3 (List.drop (m * wdt n m + j) (ints R)) = some (I (R.getD (m * wdt n m + j) i0)) ∧ R.getD (m * wdt n m + j) i0 ≤ (0 : Int) ∧ aBin Tryd.prog BinOp.add (3 : Nat) (I (↑j : Int)) (I 1) = some (I (↑(j + (1 : Nat)) : Int)) ∧ (28 : Nat) = (28 : Nat) ∧ j < e ∧ Keep (H.mk [[I 0, I 0], ints R, [AV.msl 1 0 ((m + (1 : Nat)) * wdt n m) ((m + (1 : Nat)) * wdt n m) (1 : Nat), I (↑(wdt n m) : Int), AV.msl 3 0 m (9223372036854775808 : Nat) (1 : Nat), I s], ints B] [] [] = H.mk [[I 0, I 0], ints R, [AV.msl 1 0 ((m + (1 : Nat)) * wdt n m) ((m + (1 : Nat)) * wdt n m) (1 : Nat), I (↑(wdt n m) : Int), AV.msl 3 0 m (9223372036854775808 : Nat) (1 : Nat), I s], ints B] [] [] ∧ [AV.msl 1 (m * wdt n m) (n + m) (wdt n m) (1 : Nat), I (↑(n + m) : Int), I (↑(j + (1 : Nat)) : Int)] = [AV.msl 1 (m * wdt n m) (n + m) (wdt n m) (1 : Nat), I (↑(n + m) : Int), I (↑(j + (1 : Nat)) : Int)] ∧ j + (1 : Nat) ≤ e)) (by kernel_rfl) ?_⟩
    refine ⟨by first | with_reducible assumption | omega | assumption, ?_⟩
    refine ⟨ixm_map (by kernel_rfl) hz', ?_⟩
    refine ⟨ldm_ints (by kernel_rfl) (by kernel_rfl) hl1, ?_⟩
    refine ⟨by first | with_reducible assumption | omega | assumption, ?_⟩
    refine ⟨told_add (by with_reducible assumption), ?_⟩
    refine ⟨by first | with_reducible assumption | omega | assumption, ?_⟩
    refine ⟨by first | with_reducible assumption | omega | assumption, ?_⟩
    exact ⟨rfl, rfl, by omega⟩
theorem lp86n (n m : Nat) (R B : List Int) (s : Int) (hn : nm n m) (h : Eqs n m R B) (he : ent n m R = none) :
    LoopS (E4 [g89 n m hn]) (loopAt Tryd.f86 0) 28 [17, 18, 19] [.msl 1 (m * wdt n m) (n + m) (wdt n m) 1, I (n + m : Nat), I 0] (hG n m R B s) [.mk Unit (.exit 0) [] (fun _ => True) (fun _ => []) (fun _ => hG n m R B s) (fun _ => [])] := by
  have hR : Rests (E4 [g89 n m hn]) none1 := rests mixed (ct86 n m hn)
  have e3 := ent_none he
  have hnm := h.nm
  refine loop_s hR simp86 none (by intro _ h; cases h) (fun j vs H => H = hG n m R B s ∧ vs = [.msl 1 (m * wdt n m) (n + m) (wdt n m) 1, I (n + m : Nat), I (j : Nat)] ∧ j ≤ n + m) (n + m) ⟨rfl, rfl, Nat.zero_le _⟩ (by intro _ h; cases h) ?_
  rintro j vs H hj ⟨rfl, rfl, hle⟩
  by_cases hz : (j : Int) < ((n + m : Nat) : Int)
  · have hz' : j < n + m := by omega
    have hl1 := wd_ix h (i := m) (c := j) (by omega) (by omega)
    have hc : R.getD (m * wdt n m + j) i0 ≤ 0 := e3 j hz'
    have ev0 := w_suc (i := j) (by obtain ⟨_, _, _⟩ := hnm; omega)
    have hjn : j + 1 ≤ n + m := hz'
    have hjl : j < n + m := hz'
    refine ⟨[Ans.o (Orc.b true), Ans.o (Orc.val 22 (AV.ptr 1 (m * wdt n m + j)) H.nil), Ans.o (Orc.val 23 (I (R.getD (m * wdt n m + j) i0)) H.nil), Ans.o (Orc.b false), Ans.o (Orc.val 27 (I (↑(j + (1 : Nat)) : Int)) H.nil)], fun u => of_eq ((↑j : Int) < (↑(n + m) : Int) ∧ aIndexAddr Tryd.prog 22 (AV.msl 1 (m * wdt n m) (n + m) (wdt n m) (1 : Nat)) (I (↑j : Int)) = some (AV.ptr 1 (m * wdt n m + j)) ∧ aLoad Tryd.prog 3 (List.drop (m * wdt n m + j) (ints R)) = some (I (R.getD (m * wdt n m + j) i0)) ∧ R.getD (m * wdt n m + j) i0 ≤ (0 : Int) ∧ aBin Tryd.prog BinOp.add (3 : Nat) (I (↑j : Int)) (I 1) = some (I (↑(j + (1 : Nat)) : Int)) ∧ (28 : Nat) = (28 : Nat) ∧ j < n + m ∧ Keep (H.mk [[I 0, I 0], ints R, [AV.msl 1 0 ((m + (1 : Nat)) * wdt n m) ((m + (1 : Nat)) * wdt n m) (1 : Nat), I (↑(wdt n m) : Int), AV.msl 3 0 m (9223372036854775808 : Nat) (1 : Nat), I s], ints B] [] [] = H.mk [[I 0, I 0], ints R, [AV.msl 1 0 ((m + (1 : Nat)) * wdt n m) ((m + (1 : Nat)) * wdt n m) (1 : Nat), I (↑(wdt n m) : Int), AV.msl 3 0 m (9223372036854775808 : Nat) (1 : Nat), I s], ints B] [] [] ∧ [AV.msl 1 (m * wdt n m) (n + m) (wdt n m) (1 : Nat), I (↑(n + m) : Int), I (↑(j + (1 : Nat)) : Int)] = [AV.msl 1 (m * wdt n m) (n + m) (wdt n m) (1 : Nat), I (↑(n + m) : Int), I (↑(j + (1 : Nat)) : Int)] ∧ j + (1 : Nat) ≤ n + m)) (by kernel_rfl) ?_⟩
    refine ⟨by first | with_reducible assumption | omega | assumption, ?_⟩
    refine ⟨ixm_map (by kernel_rfl) hz', ?_⟩
    refine ⟨ldm_ints (by kernel_rfl) (by kernel_rfl) hl1, ?_⟩
    refine ⟨by first | with_reducible assumption | omega | assumption, ?_⟩
    refine ⟨told_add (by with_reducible assumption), ?_⟩
    refine ⟨by first | with_reducible assumption | omega | assumption, ?_⟩
    refine ⟨by first | with_reducible assumption | omega | assumption, ?_⟩
    exact ⟨rfl, rfl, hjn⟩
  · have hz : ((n + m : Nat) : Int) ≤ j := by omega
    refine ⟨[Ans.o (Orc.b false)], fun u => of_eq ((↑(n + m) : Int) ≤ (↑j : Int) ∧ (28 : Nat) = (28 : Nat) ∧ hits [Out.mk Unit (AX.exit 0) [] (fun x => True) (fun x => []) (fun x => hG n m R B s) fun x => []] (AX.exit 0) [u (0 : Nat), u (1 : Nat), u (2 : Nat), u (3 : Nat), u (4 : Nat), u (5 : Nat), u (6 : Nat), u (7 : Nat), u (8 : Nat), u (9 : Nat), u (10 : Nat), u (11 : Nat), u (12 : Nat), u (13 : Nat), u (14 : Nat), u (15 : Nat), u (16 : Nat), AV.msl 1 (m * wdt n m) (n + m) (wdt n m) (1 : Nat), I (↑(n + m) : Int), I (↑j : Int), AV.bool false, u (21 : Nat), u (22 : Nat), u (23 : Nat), u (24 : Nat), u (25 : Nat), u (26 : Nat), u (27 : Nat)] (hG n m R B s)) (by kernel_rfl) ?_⟩
    refine ⟨by first | with_reducible assumption | omega | assumption, ?_⟩
    refine ⟨by first | with_reducible assumption | omega | assumption, ?_⟩
    exact .inl ⟨(), trivial, rfl, rfl, rfl⟩
def entV (n m : Nat) (R : List Int) : Int := match ent n m R with
  | some e => (e : Int)
  | none => -1
theorem r86 (n m : Nat) (R B : List Int) (s : Int) (hn : nm n m) (h : Eqs n m R B) : Body (E4 [g89 n m hn]) none1 Tryd.f86 [.ptr 2 0] (hG n m R B s) (I (entV n m R), hG n m R B s) := by
  have hnm := h.nm
  have ev0 := w_pred h.nm
  have hi := hsG n m m R B s (Nat.le_refl m)
  have hsl : aSlice Tryd.prog 22 (.msl 1 (m * wdt n m) (wdt n m) (wdt n m) 1) none (some (I (n + m : Nat))) none (hG n m R B s) = some (.msl 1 (m * wdt n m) (n + m) (wdt n m) 1) :=
    sl2 (by kernel_rfl) (by simp only [wdt]; omega) (by have := wd_lt h.nm; simp only [maxLen]; omega) (by simp [wdt]) _ rfl
  cases he : ent n m R with
  | some e =>
    have hv : entV n m R = (e : Int) := by simp only [entV, he]
    rw [hv]
    refine body_s ([Ans.o (Orc.val 11 (AV.msl 1 (m * wdt n m) (wdt n m) (wdt n m) (1 : Nat)) (hG n m R B s)), Ans.o (Orc.val 16 (I (↑(n + m) : Int)) H.nil), Ans.o (Orc.val 17 (AV.msl 1 (m * wdt n m) (n + m) (wdt n m) (1 : Nat)) H.nil), Ans.loop [17, 18, 19] [Out.mk Unit AX.ret [2] (fun x => True) (fun x => [I (↑e : Int)]) (fun x => hG n m R B s) fun y => []]]) (aCall (Sof [g89 n m hn]) (AV.fn (Fn.func 89) [] []) [AV.ptr 2 0, I (↑m : Int)] (hG n m R B s) = some (AV.msl 1 (m * wdt n m) (wdt n m) (wdt n m) (1 : Nat), H.mk [[I 0, I 0], ints R, [AV.msl 1 0 ((m + (1 : Nat)) * wdt n m) ((m + (1 : Nat)) * wdt n m) (1 : Nat), I (↑(wdt n m) : Int), AV.msl 3 0 m (9223372036854775808 : Nat) (1 : Nat), I s], ints B] [] []) ∧ aBin Tryd.prog BinOp.sub (3 : Nat) (I (↑(wdt n m) : Int)) (I 1) = some (I (↑(n + m) : Int)) ∧ aSlice Tryd.prog 22 (AV.msl 1 (m * wdt n m) (wdt n m) (wdt n m) (1 : Nat)) none (some (I (↑(n + m) : Int))) none (hG n m R B s) = some (AV.msl 1 (m * wdt n m) (n + m) (wdt n m) (1 : Nat)) ∧ LoopS (Env.mk Tryd.prog (Sof [g89 n m hn]) (Pof (P := Tryd.prog) []) (Base.mk (4 : Nat) (0 : Nat) (0 : Nat)) (300 : Nat)) (loopAt Tryd.f86 0) 28 [17, 18, 19] [AV.msl 1 (m * wdt n m) (n + m) (wdt n m) (1 : Nat), I (↑(n + m) : Int), I 0] (hG n m R B s) [Out.mk Unit AX.ret [2] (fun x => True) (fun x => [I (↑e : Int)]) (fun x => hG n m R B s) fun y => []] ∧ (∀ (y : Unit), True → ∀ (u : Nat → AV), (I (↑e : Int), H.mk [[I 0, I 0], ints R, [AV.msl 1 0 ((m + (1 : Nat)) * wdt n m) ((m + (1 : Nat)) * wdt n m) (1 : Nat), I (↑(wdt n m) : Int), AV.msl 3 0 m (9223372036854775808 : Nat) (1 : Nat), I s], ints B] [] []) = (I (↑e : Int), H.mk [[I 0, I 0], ints R, [AV.msl 1 0 ((m + (1 : Nat)) * wdt n m) ((m + (1 : Nat)) * wdt n m) (1 : Nat), I (↑(wdt n m) : Int), AV.msl 3 0 m (9223372036854775808 : Nat) (1 : Nat), I s], ints B] [] [])) ∧ True) (by kernel_rfl) ?_
    refine ⟨acall_hit (c := g89 n m hn) (m : Nat) _ rfl hi, ?_⟩
    refine ⟨told_sub (by with_reducible assumption), ?_⟩
    refine ⟨hsl, ?_⟩
    refine ⟨lp86s n m R B s hn h e he, ?_⟩
    refine And.intro ?_ ?_
    · skip
      intro y
      intro w1
      intro u
      rfl
    · skip
      trivial
  | none =>
    have hv : entV n m R = -1 := by simp only [entV, he]
    rw [hv]
    refine body_s ([Ans.o (Orc.val 11 (AV.msl 1 (m * wdt n m) (wdt n m) (wdt n m) (1 : Nat)) (hG n m R B s)), Ans.o (Orc.val 16 (I (↑(n + m) : Int)) H.nil), Ans.o (Orc.val 17 (AV.msl 1 (m * wdt n m) (n + m) (wdt n m) (1 : Nat)) H.nil), Ans.loop [17, 18, 19] [Out.mk Unit (AX.exit 0) [] (fun x => True) (fun x => []) (fun x => hG n m R B s) fun y => []]]) (aCall (Sof [g89 n m hn]) (AV.fn (Fn.func 89) [] []) [AV.ptr 2 0, I (↑m : Int)] (hG n m R B s) = some (AV.msl 1 (m * wdt n m) (wdt n m) (wdt n m) (1 : Nat), H.mk [[I 0, I 0], ints R, [AV.msl 1 0 ((m + (1 : Nat)) * wdt n m) ((m + (1 : Nat)) * wdt n m) (1 : Nat), I (↑(wdt n m) : Int), AV.msl 3 0 m (9223372036854775808 : Nat) (1 : Nat), I s], ints B] [] []) ∧ aBin Tryd.prog BinOp.sub (3 : Nat) (I (↑(wdt n m) : Int)) (I 1) = some (I (↑(n + m) : Int)) ∧ aSlice Tryd.prog 22 (AV.msl 1 (m * wdt n m) (wdt n m) (wdt n m) (1 : Nat)) none (some (I (↑(n + m) : Int))) none (hG n m R B s) = some (AV.msl 1 (m * wdt n m) (n + m) (wdt n m) (1 : Nat)) ∧ LoopS (Env.mk Tryd.prog (Sof [g89 n m hn]) (Pof (P := Tryd.prog) []) (Base.mk (4 : Nat) (0 : Nat) (0 : Nat)) (300 : Nat)) (loopAt Tryd.f86 0) 28 [17, 18, 19] [AV.msl 1 (m * wdt n m) (n + m) (wdt n m) (1 : Nat), I (↑(n + m) : Int), I 0] (hG n m R B s) [Out.mk Unit (AX.exit 0) [] (fun x => True) (fun x => []) (fun x => hG n m R B s) fun y => []] ∧ (∀ (y : Unit), True → ∀ (u : Nat → AV), (I (-1 : Int), H.mk [[I 0, I 0], ints R, [AV.msl 1 0 ((m + (1 : Nat)) * wdt n m) ((m + (1 : Nat)) * wdt n m) (1 : Nat), I (↑(wdt n m) : Int), AV.msl 3 0 m (9223372036854775808 : Nat) (1 : Nat), I s], ints B] [] []) = (I (-1 : Int), H.mk [[I 0, I 0], ints R, [AV.msl 1 0 ((m + (1 : Nat)) * wdt n m) ((m + (1 : Nat)) * wdt n m) (1 : Nat), I (↑(wdt n m) : Int), AV.msl 3 0 m (9223372036854775808 : Nat) (1 : Nat), I s], ints B] [] [])) ∧ True) (by kernel_rfl) ?_
    refine ⟨acall_hit (c := g89 n m hn) (m : Nat) _ rfl hi, ?_⟩
    refine ⟨told_sub (by with_reducible assumption), ?_⟩
    refine ⟨hsl, ?_⟩
    refine ⟨lp86n n m R B s hn h he, ?_⟩
    refine And.intro ?_ ?_
    · skip
      intro y
      intro w1
      intro u
      rfl
    · skip
      trivial
end Go.Proofs.Sur

