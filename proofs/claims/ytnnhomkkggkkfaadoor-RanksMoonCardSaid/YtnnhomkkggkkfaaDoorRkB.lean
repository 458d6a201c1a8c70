/- Layer 2: the players of a set, as an iterator. -/
import Derived.Test.YtnnhomkkggkkfaaDoorVm7
import Derived.Test.YtnnhomkkggkkfaaDoorSuM
import Derived.KernelRfl
set_option linter.unusedSimpArgs false
set_option linter.unusedVariables false
set_option linter.unnecessarySimpa false
set_option maxHeartbeats 4000000
set_option maxRecDepth 100000
namespace Go.Proofs.Rnk
open Go Go.VM

def drop1 (s : Nat) : Nat → Nat
  | 0 => s
  | k + 1 => drop1 s k &&& (drop1 s k - 1)
def els (s : Nat) : List Nat := (List.range 8).filter fun i => s.testBit i
abbrev el (s k : Nat) : Nat := (els s).getD k 0
def chk (s : Nat) : Bool := drop1 s (pc s) == 0 && (List.range 8).all fun k => !decide (k < pc s) || (decide (0 < drop1 s k) && decide (drop1 s k < 256) && lo (drop1 s k) == el s k)
theorem chk_all : (List.range 256).all chk = true := by decide +kernel
theorem drop1_end {s : Nat} (h : s < 256) : drop1 s (pc s) = 0 := by
  have := List.all_eq_true.1 chk_all s (List.mem_range.2 h)
  simp only [chk, Bool.and_eq_true, beq_iff_eq] at this
  exact this.1
theorem pc_le (s : Nat) : pc s ≤ 8 := by
  have := List.length_filter_le (fun i => s.testBit i) (List.range 8)
  simpa [pc] using this
theorem drop1_at {s k : Nat} (h : s < 256) (hk : k < pc s) : 0 < drop1 s k ∧ drop1 s k < 256 ∧ lo (drop1 s k) = el s k := by
  have := List.all_eq_true.1 chk_all s (List.mem_range.2 h)
  simp only [chk, Bool.and_eq_true, beq_iff_eq] at this
  have h2 := List.all_eq_true.1 this.2 k (List.mem_range.2 (by have := pc_le s; omega))
  simp only [hk, decide_true, Bool.not_true, Bool.false_or, Bool.and_eq_true, decide_eq_true_eq, beq_iff_eq] at h2
  exact ⟨h2.1.1, h2.1.2, h2.2⟩
abbrev pxs (s k : Nat) : List AV := [I (el s k : Nat)]
abbrev pown (b s k : Nat) (h : H) : Prop := h.blk[b]? = some [I (drop1 s k : Nat)]
abbrev pnx (b s k : Nat) (h : H) : H := { h with blk := h.blk.set b [I (drop1 s (k + 1) : Nat)] }

theorem l3 (x : AV) : aLoad Tryd.prog 3 [x] = some x := by kernel_rfl
theorem ofc (n : Int) : ofConst (.int .i64 n) = .int .i64 n := by kernel_rfl
theorem neq3 (x y : Int) : aBin Tryd.prog .neq 3 (.int .i64 x) (.int .i64 y) = some (.bool (!decide (x = y))) := by kernel_rfl
theorem sub3 (x y : Int) : aBin Tryd.prog .sub 3 (.int .i64 x) (.int .i64 y) = some (.int .i64 (IntKind.i64.wrap (x - y))) := by kernel_rfl
theorem conv (x : Int) : aConvert Tryd.prog 3 52 (.int .i64 x) = some (.int .u64 (IntKind.u64.wrap x)) := by kernel_rfl
theorem sto (β : Base) (b : Nat) (x y : Int) {h : H} (hb : h.blk[b]? = some [I x]) : aStore Tryd.prog β 3 (.ptr b 0) (I y) h = some { h with blk := h.blk.set b [I y] } := by
  have hz : sizeT Tryd.prog 3 = some 1 := by kernel_rfl
  simp only [aStore, AV.cells?, hz, hb]
  simp [AV.one, AV.bnds, AV.bnd, putAt]
theorem and1 {s : Nat} (h : 0 < s ∧ s < 256) : aBin Tryd.prog .and 3 (I (s : Nat)) (I (IntKind.i64.wrap ((s : Int) - 1))) = some (I ((s &&& (s - 1) : Nat))) := by
  have e : IntKind.i64.wrap ((s : Int) - 1) = ((s - 1 : Nat) : Int) := by rw [wr _ (by omega) (by omega)]; omega
  rw [e]
  exact told_and (Sur.i_and (a := s) (b := s - 1) (by omega) (by omega))
theorem o_call {E : Env} {R : Rx E} {o : Option Code} {A : List AV} {h : H} {ops : Array Oper} {l : List Oper} {K1 : Option Code → List AV → H → Prop} (hS : SummB E.P E.β.nb E.S) {d : Nat} {ty : TypeId} {ps : String} {af : Array Edge} {c : Call} {v f : AV} {us : List AV} {g : Operand}
    (hg : c.callee = .value g) (hf : aev A g = f) (ha : c.args.toList.map (aev A) = us) (hc : aCall E.S f us h = some (v, h)) (hk : OpsI R ops o l (A.set d v) h K1) :
    OpsI R ops o ({ dst := some d, op := .call c, type := ty, pos := ps, after := af, guard := none } :: l) A h K1 := OpsI.op hS rfl (by simp only [aop, hg, hf, ha, hc]) hk
theorem o_conv {E : Env} {R : Rx E} {o : Option Code} {A : List AV} {h : H} {ops : Array Oper} {l : List Oper} {K1 : Option Code → List AV → H → Prop} (hS : SummB E.P E.β.nb E.S) {d : Nat} {ty t t' : TypeId} {ps : String} {af : Array Edge} {x : Operand} {v xv : AV}
    (hx : aev A x = xv) (hf : aConvert E.P t t' xv = some v) (hk : OpsI R ops o l (A.set d v) h K1) :
    OpsI R ops o ({ dst := some d, op := .convert t t' x, type := ty, pos := ps, after := af, guard := none } :: l) A h K1 := OpsI.op hS rfl (by simp only [aop, hx, hf, Option.map_some]) hk
theorem o_store {E : Env} {R : Rx E} {o : Option Code} {A : List AV} {h h' : H} {ops : Array Oper} {l : List Oper} {K1 : Option Code → List AV → H → Prop} (hS : SummB E.P E.β.nb E.S) {ty t : TypeId} {ps : String} {af : Array Edge} {x y : Operand} {v xv : AV}
    (hx : aev A x = xv) (hy : aev A y = v) (hf : aStore E.P E.β t xv v h = some h') (hk : OpsI R ops o l A h' K1) :
    OpsI R ops o ({ dst := none, op := .store t x y, type := ty, pos := ps, after := af, guard := none } :: l) A h K1 := OpsI.op hS rfl (v := .undef) (by simp only [aop, hx, hy, hf, Option.map_some]) hk

theorem players_it {p : Pures} {β : Base} {b s : Nat} (hs : s < 256) {h0 : H} (hh : pown b s 0 h0) :
    IterOk Tryd.prog β 95 [.ptr b 0] h0 h0 (pc s) (pxs s) (pown b s) (pnx b s) := by
  have hS : SummB Tryd.prog β.nb (Sof (P := Tryd.prog) [c96.to]) := (sof_ok _).b
  refine iterator_ok (S := Sof (P := Tryd.prog) [c96.to]) (p := p) (gf := 95) (fn := Tryd.f95) (c := bd Tryd.f95) (by kernel_rfl) (by kernel_rfl) (by kernel_rfl) (by kernel_rfl) ?_
  intro R T Tx hY hT
  show SemI R none (bd Tryd.f95) [.fn (.yield R.l) [] [], .ptr b 0, .undef, .undef, .undef, .undef, .undef, .undef, .undef, .undef, .undef, .undef, .undef, .undef, .undef] h0 _
  simp only [bd, Tryd.f95, Option.getD_some]
  refine SemI.block (SemI.loop (fun d o A h => o = none ∧ A.length = 15 ∧ A[0]? = some (.fn (.yield R.l) [] []) ∧ A[1]? = some (.ptr b 0) ∧ ∃ k : Nat, pown b s k h ∧ k ≤ pc s ∧ d = pc s - k ∧ T k h) ?_ (d := pc s) ?_)
  rotate_left
  · exact ⟨rfl, rfl, rfl, rfl, 0, hh, Nat.zero_le _, by omega, hT⟩
  rintro d o A h ⟨rfl, hA, h0, h1, k, g1, hk, hd, hTk⟩
  refine SemI.seq (SemI.seq (SemI.region ?_))
  refine o_load hS (b := b) (k := 0) (by apply aev_tmp; (repeat (refine set_other ?_ (by decide))); (first | exact set_same (n := 15) (by (try simp only [List.length_set]); assumption) (by decide) | assumption)) g1 (l3 _) ?_
  refine o_bin hS (xv := I (drop1 s k : Nat)) (yv := I 0) (by apply aev_tmp; (repeat (refine set_other ?_ (by decide))); (first | exact set_same (n := 15) (by (try simp only [List.length_set]); assumption) (by decide) | assumption)) (ofc 0) (neq3 _ _) (OpsI.nil ?_)
  by_cases hlt : k < pc s
  · obtain ⟨k1, k2, k3⟩ := drop1_at hs hlt
    refine SemI.cond (b := true) (by
      have e : (!decide (((drop1 s k : Nat) : Int) = 0)) = true := by simp; omega
      rw [← e]; exact (by apply aev_tmp; (repeat (refine set_other ?_ (by decide))); (first | exact set_same (n := 15) (by (try simp only [List.length_set]); assumption) (by decide) | assumption))) ?_
    refine SemI.skip ?_
    refine SemI.seq (SemI.block (SemI.seq (SemI.region ?_)))
    refine o_move hS (v := .fn (.yield R.l) [] []) (by apply aev_tmp; (repeat (refine set_other ?_ (by decide))); (first | exact set_same (n := 15) (by (try simp only [List.length_set]); assumption) (by decide) | assumption)) ?_
    refine o_load hS (b := b) (k := 0) (by apply aev_tmp; (repeat (refine set_other ?_ (by decide))); (first | exact set_same (n := 15) (by (try simp only [List.length_set]); assumption) (by decide) | assumption)) g1 (l3 _) ?_
    refine o_conv hS (xv := I (drop1 s k : Nat)) (by apply aev_tmp; (repeat (refine set_other ?_ (by decide))); (first | exact set_same (n := 15) (by (try simp only [List.length_set]); assumption) (by decide) | assumption)) (conv _) ?_
    rw [Sur.w_wrap (n := drop1 s k) (by omega)]
    refine o_call hS (f := .fn (.func 96) [] []) (us := [.int .u64 (drop1 s k : Nat)]) rfl (by kernel_rfl) ?_ (acall_hit (c := c96.to) (drop1 s k) _ rfl ⟨k1, k2⟩) ?_
    · simp only [List.map_cons, List.map_nil, List.cons.injEq, and_true]
      exact (by apply aev_tmp; (repeat (refine set_other ?_ (by decide))); (first | exact set_same (n := 15) (by (try simp only [List.length_set]); assumption) (by decide) | assumption))
    refine OpsI.yieldAt hY rfl rfl rfl (by apply aev_tmp; (repeat (refine set_other ?_ (by decide))); (first | exact set_same (n := 15) (by (try simp only [List.length_set]); assumption) (by decide) | assumption)) k hlt g1 hTk ?_ ?_ ?_
    · simp only [pxs, List.map_cons, List.map_nil, List.cons.injEq, and_true]
      rw [← k3]
      exact (by apply aev_tmp; (repeat (refine set_other ?_ (by decide))); (first | exact set_same (n := 15) (by (try simp only [List.length_set]); assumption) (by decide) | assumption))
    · intro h' g1' hT'
      dsimp only [putA]
      refine o_un hS (xv := .bool true) (by apply aev_tmp; (repeat (refine set_other ?_ (by decide))); (first | exact set_same (n := 15) (by (try simp only [List.length_set]); assumption) (by decide) | assumption)) rfl (OpsI.nil ?_)
      refine SemI.cond (b := false) (by apply aev_tmp; (repeat (refine set_other ?_ (by decide))); (first | exact set_same (n := 15) (by (try simp only [List.length_set]); assumption) (by decide) | assumption)) ?_
      refine SemI.skip ?_
      dsimp only
      refine SemI.region ?_
      refine o_load hS (b := b) (k := 0) (by apply aev_tmp; (repeat (refine set_other ?_ (by decide))); (first | exact set_same (n := 15) (by (try simp only [List.length_set]); assumption) (by decide) | assumption)) g1' (l3 _) ?_
      refine o_load hS (b := b) (k := 0) (by apply aev_tmp; (repeat (refine set_other ?_ (by decide))); (first | exact set_same (n := 15) (by (try simp only [List.length_set]); assumption) (by decide) | assumption)) g1' (l3 _) ?_
      refine o_bin hS (xv := I (drop1 s k : Nat)) (yv := I 1) (by apply aev_tmp; (repeat (refine set_other ?_ (by decide))); (first | exact set_same (n := 15) (by (try simp only [List.length_set]); assumption) (by decide) | assumption)) (ofc 1) (sub3 _ _) ?_
      refine o_bin hS (xv := I (drop1 s k : Nat)) (yv := I (IntKind.i64.wrap ((drop1 s k : Nat) - 1))) (by apply aev_tmp; (repeat (refine set_other ?_ (by decide))); (first | exact set_same (n := 15) (by (try simp only [List.length_set]); assumption) (by decide) | assumption)) (by apply aev_tmp; (repeat (refine set_other ?_ (by decide))); (first | exact set_same (n := 15) (by (try simp only [List.length_set]); assumption) (by decide) | assumption)) (and1 ⟨k1, k2⟩) ?_
      refine o_store hS (xv := .ptr b 0) (v := I (drop1 s (k + 1) : Nat)) (by apply aev_tmp; (repeat (refine set_other ?_ (by decide))); (first | exact set_same (n := 15) (by (try simp only [List.length_set]); assumption) (by decide) | assumption)) (by apply aev_tmp; (repeat (refine set_other ?_ (by decide))); (first | exact set_same (n := 15) (by (try simp only [List.length_set]); assumption) (by decide) | assumption)) (sto _ b _ _ g1') (OpsI.nil ?_)
      dsimp only
      refine ⟨pc s - (k + 1), by omega, rfl, by simp only [List.length_set]; assumption, ?_, ?_, k + 1, ?_, by omega, rfl, hT'⟩
      · ((repeat (refine set_other ?_ (by decide))); (first | exact set_same (n := 15) (by (try simp only [List.length_set]); assumption) (by decide) | assumption))
      · ((repeat (refine set_other ?_ (by decide))); (first | exact set_same (n := 15) (by (try simp only [List.length_set]); assumption) (by decide) | assumption))
      · have hl := (List.getElem?_eq_some_iff.1 g1').1
        show (h'.blk.set b [I (drop1 s (k + 1) : Nat)])[b]? = _
        rw [List.getElem?_set_self hl]
    · intro jump h' hTx
      dsimp only [putA]
      refine o_un hS (xv := .bool false) (by apply aev_tmp; (repeat (refine set_other ?_ (by decide))); (first | exact set_same (n := 15) (by (try simp only [List.length_set]); assumption) (by decide) | assumption)) rfl (OpsI.nil ?_)
      refine SemI.cond (b := true) (by apply aev_tmp; (repeat (refine set_other ?_ (by decide))); (first | exact set_same (n := 15) (by (try simp only [List.length_set]); assumption) (by decide) | assumption)) ?_
      exact SemI.ret ⟨.inr rfl, hTx⟩
  · have e : k = pc s := by omega
    subst e
    have hz := drop1_end hs
    refine SemI.cond (b := false) (by
      have e : (!decide (((drop1 s (pc s) : Nat) : Int) = 0)) = false := by rw [hz]; rfl
      rw [← e]; exact (by apply aev_tmp; (repeat (refine set_other ?_ (by decide))); (first | exact set_same (n := 15) (by (try simp only [List.length_set]); assumption) (by decide) | assumption))) ?_
    refine SemI.exit ?_
    dsimp only
    exact ⟨.inl rfl, hTk⟩
end Go.Proofs.Rnk

