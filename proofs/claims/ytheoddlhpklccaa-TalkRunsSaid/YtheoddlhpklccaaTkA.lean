/- Layer 3: the iterator over the rectangles of a table. -/
import Derived.Test.YtheoddlhpklccaaVm7
import Derived.Test.YtheoddlhpklccaaProg
import Derived.KernelRfl
set_option linter.unusedSimpArgs false
set_option linter.unusedVariables false
set_option linter.unnecessarySimpa false
set_option maxHeartbeats 4000000
set_option maxRecDepth 100000
namespace Go.Proofs.Tlk
open Go Go.VM
theorem mixed : Try.prog.follows .mixedOrders = true := by kernel_rfl
instance : Inhabited Globs := ⟨⟨fun _ => []⟩⟩
theorem globs_ok (G : Ghost) : GlobOk G := fun g i v h => by cases h

/-- how many sets of rows and of columns the table has that the block's cells hold -/
def Has (b tb to na nb : Nat) (h : H) : Prop :=
  h.blk[b]? = some [.ptr tb to] ∧ ∃ cs, h.blk[tb]? = some cs ∧ cs[to]? = some (.int .i64 na) ∧ cs[to + 1]? = some (.int .i64 nb)
abbrev rxs (nb : Nat) (k : Nat) : List AV := [.agg [.int .i64 (k / nb + 1 : Nat), .int .i64 (k % nb + 1 : Nat)]]

theorem l110 (x : AV) : aLoad Try.prog 110 [x] = some x := by kernel_rfl
theorem l3 (cs : List AV) : aLoad Try.prog 3 cs = cs[0]? := by kernel_rfl
theorem fa (b o : Nat) : aFieldAddr Try.prog 64 (.ptr b o) 0 = some (.ptr b (o + 0)) := by kernel_rfl
theorem ia0 (b o : Nat) : aIndexAddr Try.prog 56 (.ptr b o) (.int .i64 0) = some (.ptr b (o + 0 * 1)) := by kernel_rfl
theorem ia1 (b o : Nat) : aIndexAddr Try.prog 56 (.ptr b o) (.int .i64 1) = some (.ptr b (o + 1 * 1)) := by kernel_rfl
theorem leq (x y : Int) : aBin Try.prog .leq 3 (.int .i64 x) (.int .i64 y) = some (.bool (decide (x ≤ y))) := by kernel_rfl
theorem add (x y : Int) : aBin Try.prog .add 3 (.int .i64 x) (.int .i64 y) = some (.int .i64 (IntKind.i64.wrap (x + y))) := by kernel_rfl
theorem b56 (x y : Int) : aBuild Try.prog 56 [(0, .int .i64 x), (1, .int .i64 y)] = some (.agg [.int .i64 x, .int .i64 y]) := by kernel_rfl
theorem ofc (n : Int) : ofConst (.int .i64 n) = .int .i64 n := by kernel_rfl


theorem rect_it {S : Summ} {p : Pures} {β : Base} (hS : SummOk Try.prog S) {b tb to na nb : Nat} (hna : na < 4096) (hnb : nb < 4096) (hp : 0 < nb) {h0 : H} (hh : Has b tb to na nb h0) :
    IterOk Try.prog β 87 [.ptr b 0] h0 h0 (na * nb) (rxs nb) (fun _ h => Has b tb to na nb h) (fun _ h => h) := by
  refine iterator_ok (S := S) (p := p) (gf := 87) (fn := Try.f87) (c := bd Try.f87) (by kernel_rfl) (by kernel_rfl) (by kernel_rfl) (by kernel_rfl) ?_
  intro R T Tx hY hT
  have hw : ∀ n : Nat, n < 4096 → IntKind.i64.wrap ((n : Int) + 1 + 1) = ((n + 1 : Nat) : Int) + 1 := fun n hn => by
    rw [wr _ (by omega) (by omega)]; omega
  show SemI R none (bd Try.f87) [.fn (.yield R.l) [] [], .ptr b 0, .undef, .undef, .undef, .undef, .undef, .undef, .undef, .undef, .undef, .undef, .undef, .undef, .undef, .undef, .undef, .undef, .undef, .undef, .undef, .undef, .undef, .undef, .undef, .undef, .undef, .undef, .undef] h0 _
  simp only [bd, Try.f87, Option.getD_some]
  refine SemI.seq (SemI.region (o_assign hS rfl (OpsI.nil ?_)))
  refine SemI.block (SemI.loop (fun d o A h => o = none ∧ A.length = 29 ∧ A[0]? = some (.fn (.yield R.l) [] []) ∧ A[1]? = some (.ptr b 0) ∧ Has b tb to na nb h ∧ ∃ r : Nat, A[3]? = some (.int .i64 ((r : Int) + 1)) ∧ r ≤ na ∧ d = na - r ∧ T (r * nb) h) ?_ (d := na) ?_)
  rotate_left
  · exact ⟨rfl, rfl, rfl, rfl, hh, 0, rfl, Nat.zero_le _, by omega, by simpa using hT⟩
  rintro d o A h ⟨rfl, hA, h0, h1, ⟨g1, cs, g2, g3, g4⟩, r, h3, hr, hd, hTr⟩
  refine SemI.seq (SemI.seq (SemI.region ?_))
  refine o_move hS (v := .int .i64 ((r : Int) + 1)) (by apply aev_tmp; (repeat (refine set_other ?_ (by decide))); (first | exact set_same (n := 29) (by (try simp only [List.length_set]); assumption) (by decide) | assumption)) ?_
  refine o_load hS (b := b) (k := 0) (by apply aev_tmp; (repeat (refine set_other ?_ (by decide))); (first | exact set_same (n := 29) (by (try simp only [List.length_set]); assumption) (by decide) | assumption)) g1 (l110 _) ?_
  refine o_nil hS (b := tb) (k := to) (by apply aev_tmp; (repeat (refine set_other ?_ (by decide))); (first | exact set_same (n := 29) (by (try simp only [List.length_set]); assumption) (by decide) | assumption)) ?_
  refine o_fa hS (by apply aev_tmp; (repeat (refine set_other ?_ (by decide))); (first | exact set_same (n := 29) (by (try simp only [List.length_set]); assumption) (by decide) | assumption)) (fa tb to) ?_
  refine o_ia hS (by apply aev_tmp; (repeat (refine set_other ?_ (by decide))); (first | exact set_same (n := 29) (by (try simp only [List.length_set]); assumption) (by decide) | assumption)) (ofc 0) (ia0 tb _) ?_
  refine o_load hS (b := tb) (by apply aev_tmp; (repeat (refine set_other ?_ (by decide))); (first | exact set_same (n := 29) (by (try simp only [List.length_set]); assumption) (by decide) | assumption)) g2 (v := .int .i64 na) (by rw [l3]; simpa using g3) ?_
  refine o_bin hS (xv := .int .i64 ((r : Int) + 1)) (yv := .int .i64 na) (by apply aev_tmp; (repeat (refine set_other ?_ (by decide))); (first | exact set_same (n := 29) (by (try simp only [List.length_set]); assumption) (by decide) | assumption)) (by apply aev_tmp; (repeat (refine set_other ?_ (by decide))); (first | exact set_same (n := 29) (by (try simp only [List.length_set]); assumption) (by decide) | assumption)) (leq _ _) (OpsI.nil ?_)
  refine SemI.cond (b := decide ((r : Int) + 1 ≤ na)) (by apply aev_tmp; (repeat (refine set_other ?_ (by decide))); (first | exact set_same (n := 29) (by (try simp only [List.length_set]); assumption) (by decide) | assumption)) ?_
  by_cases hlt : ¬ ((r : Int) + 1 ≤ na)
  · rw [decide_eq_false hlt]
    refine SemI.exit ?_
    have : r = na := by omega
    subst this
    dsimp only
    exact ⟨.inl rfl, hTr⟩
  rw [decide_eq_true (Decidable.not_not.1 hlt)]
  refine SemI.skip ?_
  -- the columns
  refine SemI.seq (SemI.block (SemI.seq (SemI.region (o_assign hS (ofc 1) (OpsI.nil ?_)))))
  refine SemI.block (SemI.loop (fun d o A h => o = none ∧ A.length = 29 ∧ A[0]? = some (.fn (.yield R.l) [] []) ∧ A[1]? = some (.ptr b 0) ∧ Has b tb to na nb h ∧ A[3]? = some (.int .i64 ((r : Int) + 1)) ∧ ∃ c : Nat, A[4]? = some (.int .i64 ((c : Int) + 1)) ∧ c ≤ nb ∧ d = nb - c ∧ T (r * nb + c) h) ?_ (d := nb) ?_)
  rotate_left
  · refine ⟨rfl, by simp only [List.length_set]; assumption, ?_, ?_, ⟨g1, cs, g2, g3, g4⟩, ?_, 0, ?_, Nat.zero_le _, by omega, hTr⟩
    · ((repeat (refine set_other ?_ (by decide))); (first | exact set_same (n := 29) (by (try simp only [List.length_set]); assumption) (by decide) | assumption))
    · ((repeat (refine set_other ?_ (by decide))); (first | exact set_same (n := 29) (by (try simp only [List.length_set]); assumption) (by decide) | assumption))
    · ((repeat (refine set_other ?_ (by decide))); (first | exact set_same (n := 29) (by (try simp only [List.length_set]); assumption) (by decide) | assumption))
    · ((repeat (refine set_other ?_ (by decide))); (first | exact set_same (n := 29) (by (try simp only [List.length_set]); assumption) (by decide) | assumption))
  clear h0 h1 h3 hA g1 g2 g3 g4 hTr
  rintro d' o A h ⟨rfl, hA, h0, h1, ⟨g1, cs, g2, g3, g4⟩, h3, c, h4, hc, hd', hTc⟩
  refine SemI.seq (SemI.seq (SemI.region ?_))
  refine o_move hS (v := .int .i64 ((c : Int) + 1)) (by apply aev_tmp; (repeat (refine set_other ?_ (by decide))); (first | exact set_same (n := 29) (by (try simp only [List.length_set]); assumption) (by decide) | assumption)) ?_
  refine o_load hS (b := b) (k := 0) (by apply aev_tmp; (repeat (refine set_other ?_ (by decide))); (first | exact set_same (n := 29) (by (try simp only [List.length_set]); assumption) (by decide) | assumption)) g1 (l110 _) ?_
  refine o_nil hS (b := tb) (k := to) (by apply aev_tmp; (repeat (refine set_other ?_ (by decide))); (first | exact set_same (n := 29) (by (try simp only [List.length_set]); assumption) (by decide) | assumption)) ?_
  refine o_fa hS (by apply aev_tmp; (repeat (refine set_other ?_ (by decide))); (first | exact set_same (n := 29) (by (try simp only [List.length_set]); assumption) (by decide) | assumption)) (fa tb to) ?_
  refine o_ia hS (by apply aev_tmp; (repeat (refine set_other ?_ (by decide))); (first | exact set_same (n := 29) (by (try simp only [List.length_set]); assumption) (by decide) | assumption)) (ofc 1) (ia1 tb _) ?_
  refine o_load hS (b := tb) (by apply aev_tmp; (repeat (refine set_other ?_ (by decide))); (first | exact set_same (n := 29) (by (try simp only [List.length_set]); assumption) (by decide) | assumption)) g2 (v := .int .i64 nb) (by rw [l3]; simpa using g4) ?_
  refine o_bin hS (xv := .int .i64 ((c : Int) + 1)) (yv := .int .i64 nb) (by apply aev_tmp; (repeat (refine set_other ?_ (by decide))); (first | exact set_same (n := 29) (by (try simp only [List.length_set]); assumption) (by decide) | assumption)) (by apply aev_tmp; (repeat (refine set_other ?_ (by decide))); (first | exact set_same (n := 29) (by (try simp only [List.length_set]); assumption) (by decide) | assumption)) (leq _ _) (OpsI.nil ?_)
  refine SemI.cond (b := decide ((c : Int) + 1 ≤ nb)) (by apply aev_tmp; (repeat (refine set_other ?_ (by decide))); (first | exact set_same (n := 29) (by (try simp only [List.length_set]); assumption) (by decide) | assumption)) ?_
  by_cases hlc : ¬ ((c : Int) + 1 ≤ nb)
  · rw [decide_eq_false hlc]
    refine SemI.exit ?_
    have : c = nb := by omega
    subst this
    -- the next row
    dsimp only
    refine SemI.region ?_
    refine o_move hS (v := .int .i64 ((r : Int) + 1)) (by apply aev_tmp; (repeat (refine set_other ?_ (by decide))); (first | exact set_same (n := 29) (by (try simp only [List.length_set]); assumption) (by decide) | assumption)) ?_
    refine o_bin hS (xv := .int .i64 ((r : Int) + 1)) (by apply aev_tmp; (repeat (refine set_other ?_ (by decide))); (first | exact set_same (n := 29) (by (try simp only [List.length_set]); assumption) (by decide) | assumption)) (ofc 1) (add _ _) ?_
    rw [hw r (by omega)]
    refine o_assign hS (v := .int .i64 (((r + 1 : Nat) : Int) + 1)) (by apply aev_tmp; (repeat (refine set_other ?_ (by decide))); (first | exact set_same (n := 29) (by (try simp only [List.length_set]); assumption) (by decide) | assumption)) (OpsI.nil ?_)
    dsimp only
    refine ⟨na - (r + 1), by omega, rfl, by simp only [List.length_set]; assumption, ?_, ?_, ⟨g1, cs, g2, g3, g4⟩, r + 1, ?_, by omega, rfl, by rw [Nat.add_mul, Nat.one_mul]; exact hTc⟩
    · ((repeat (refine set_other ?_ (by decide))); (first | exact set_same (n := 29) (by (try simp only [List.length_set]); assumption) (by decide) | assumption))
    · ((repeat (refine set_other ?_ (by decide))); (first | exact set_same (n := 29) (by (try simp only [List.length_set]); assumption) (by decide) | assumption))
    · ((repeat (refine set_other ?_ (by decide))); (first | exact set_same (n := 29) (by (try simp only [List.length_set]); assumption) (by decide) | assumption))
  rw [decide_eq_true (Decidable.not_not.1 hlc)]
  refine SemI.skip ?_
  refine SemI.seq (SemI.block (SemI.seq (SemI.region ?_)))
  refine o_move hS (v := .fn (.yield R.l) [] []) (by apply aev_tmp; (repeat (refine set_other ?_ (by decide))); (first | exact set_same (n := 29) (by (try simp only [List.length_set]); assumption) (by decide) | assumption)) ?_
  refine o_move hS (v := .int .i64 ((r : Int) + 1)) (by apply aev_tmp; (repeat (refine set_other ?_ (by decide))); (first | exact set_same (n := 29) (by (try simp only [List.length_set]); assumption) (by decide) | assumption)) ?_
  refine o_move hS (v := .int .i64 ((c : Int) + 1)) (by apply aev_tmp; (repeat (refine set_other ?_ (by decide))); (first | exact set_same (n := 29) (by (try simp only [List.length_set]); assumption) (by decide) | assumption)) ?_
  refine o_build hS (vs := [(0, .int .i64 ((r : Int) + 1)), (1, .int .i64 ((c : Int) + 1))]) ?_ (b56 _ _) ?_
  · simp only [List.map_cons, List.map_nil, List.cons.injEq, Prod.mk.injEq, true_and, and_true]
    exact ⟨by (apply aev_tmp; (repeat (refine set_other ?_ (by decide))); (first | exact set_same (n := 29) (by (try simp only [List.length_set]); assumption) (by decide) | assumption)), by (apply aev_tmp; (repeat (refine set_other ?_ (by decide))); (first | exact set_same (n := 29) (by (try simp only [List.length_set]); assumption) (by decide) | assumption))⟩
  have hk1 : (r * nb + c) / nb = r := by rw [Nat.mul_comm, Nat.mul_add_div hp, Nat.div_eq_of_lt (by omega)]; omega
  have hk2 : (r * nb + c) % nb = c := by rw [Nat.mul_comm, Nat.mul_add_mod]; exact Nat.mod_eq_of_lt (by omega)
  have hk3 : r * nb + c < na * nb := by
    have : (r + 1) * nb ≤ na * nb := Nat.mul_le_mul_right _ (by omega)
    rw [Nat.add_mul, Nat.one_mul] at this
    omega
  refine OpsI.yieldAt hY rfl rfl rfl (by apply aev_tmp; (repeat (refine set_other ?_ (by decide))); (first | exact set_same (n := 29) (by (try simp only [List.length_set]); assumption) (by decide) | assumption)) (r * nb + c) hk3 ⟨g1, cs, g2, g3, g4⟩ hTc ?_ ?_ ?_
  · simp only [rxs, hk1, hk2, List.map_cons, List.map_nil, List.cons.injEq, and_true]
    (apply aev_tmp; (repeat (refine set_other ?_ (by decide))); (first | exact set_same (n := 29) (by (try simp only [List.length_set]); assumption) (by decide) | assumption))
  · -- on
    rintro h' ⟨g1', cs', g2', g3', g4'⟩ hT'
    dsimp only [putA]
    refine o_un hS (xv := .bool true) (by apply aev_tmp; (repeat (refine set_other ?_ (by decide))); (first | exact set_same (n := 29) (by (try simp only [List.length_set]); assumption) (by decide) | assumption)) rfl (OpsI.nil ?_)
    refine SemI.cond (b := false) (by apply aev_tmp; (repeat (refine set_other ?_ (by decide))); (first | exact set_same (n := 29) (by (try simp only [List.length_set]); assumption) (by decide) | assumption)) ?_
    refine SemI.skip ?_
    dsimp only
    refine SemI.region ?_
    refine o_move hS (v := .int .i64 ((c : Int) + 1)) (by apply aev_tmp; (repeat (refine set_other ?_ (by decide))); (first | exact set_same (n := 29) (by (try simp only [List.length_set]); assumption) (by decide) | assumption)) ?_
    refine o_bin hS (xv := .int .i64 ((c : Int) + 1)) (by apply aev_tmp; (repeat (refine set_other ?_ (by decide))); (first | exact set_same (n := 29) (by (try simp only [List.length_set]); assumption) (by decide) | assumption)) (ofc 1) (add _ _) ?_
    rw [hw c (by omega)]
    refine o_assign hS (v := .int .i64 (((c + 1 : Nat) : Int) + 1)) (by apply aev_tmp; (repeat (refine set_other ?_ (by decide))); (first | exact set_same (n := 29) (by (try simp only [List.length_set]); assumption) (by decide) | assumption)) (OpsI.nil ?_)
    dsimp only
    refine ⟨nb - (c + 1), by omega, rfl, by simp only [List.length_set]; assumption, ?_, ?_, ⟨g1', cs', g2', g3', g4'⟩, ?_, c + 1, ?_, by omega, rfl, hT'⟩
    · ((repeat (refine set_other ?_ (by decide))); (first | exact set_same (n := 29) (by (try simp only [List.length_set]); assumption) (by decide) | assumption))
    · ((repeat (refine set_other ?_ (by decide))); (first | exact set_same (n := 29) (by (try simp only [List.length_set]); assumption) (by decide) | assumption))
    · ((repeat (refine set_other ?_ (by decide))); (first | exact set_same (n := 29) (by (try simp only [List.length_set]); assumption) (by decide) | assumption))
    · ((repeat (refine set_other ?_ (by decide))); (first | exact set_same (n := 29) (by (try simp only [List.length_set]); assumption) (by decide) | assumption))
  · -- no more
    intro jump h' hTx
    dsimp only [putA]
    refine o_un hS (xv := .bool false) (by apply aev_tmp; (repeat (refine set_other ?_ (by decide))); (first | exact set_same (n := 29) (by (try simp only [List.length_set]); assumption) (by decide) | assumption)) rfl (OpsI.nil ?_)
    refine SemI.cond (b := true) (by apply aev_tmp; (repeat (refine set_other ?_ (by decide))); (first | exact set_same (n := 29) (by (try simp only [List.length_set]); assumption) (by decide) | assumption)) ?_
    exact SemI.ret ⟨.inr rfl, hTx⟩
end Go.Proofs.Tlk

