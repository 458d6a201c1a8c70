/- Layer 1: the search for a plan, whole. -/
import Derived.Test.YtbadfaiepgfpdaaWgV
import Derived.KernelRfl
set_option linter.unusedSimpArgs false
set_option linter.unusedVariables false
set_option linter.unnecessarySimpa false
set_option maxHeartbeats 4000000
set_option maxRecDepth 100000
namespace Go.Proofs.Weg
open Go Go.VM

theorem r63z (t : List Row) (x y z : Int) : ebody Try.prog (Pof (P := Try.prog) []) (Sof (P := Try.prog) []) 2000 (Func.u Try.f63) (bd (Func.u Try.f63)) [rs t .no, I 0, sA x y z] .nil = some (.tup [.sl [] 0 .nil, .bool (x == 0 && (y == 0 && (z == 0 && true)))], .nil) := by
  refine body_wV ([Ans.o Orc.dflt, Ans.bfork (19 : Nat) [] []]) (((x == (0 : Int) && (y == (0 : Int) && (z == (0 : Int) && true))) = true → (AV.tup [AV.sl [] (0 : Nat) Room.nil, AV.bool true], H.mk [] [] []) = (AV.tup [AV.sl [] (0 : Nat) Room.nil, AV.bool (x == (0 : Int) && (y == (0 : Int) && (z == (0 : Int) && true)))], H.mk [] [] [])) ∧ ((x == (0 : Int) && (y == (0 : Int) && (z == (0 : Int) && true))) = false → (AV.tup [AV.sl [] (0 : Nat) Room.nil, AV.bool false], H.mk [] [] []) = (AV.tup [AV.sl [] (0 : Nat) Room.nil, AV.bool (x == (0 : Int) && (y == (0 : Int) && (z == (0 : Int) && true)))], H.mk [] [] []))) (by kernel_rfl) ?_
  refine And.intro ?_ ?_
  · skip
    intro w0
    first | with_reducible rfl | (refine bleaf_t ?_; first | omega | (simp only [small, tiny, rng, decide_eq_true_eq, decide_eq_false_iff_not, true_or, or_true, true_and, and_true, Int.reduceEq, Int.reduceNeg, eq_self, reduceIte, if_true, if_false] at *; omega)) | (refine bleaf_f ?_; first | omega | (simp only [small, tiny, rng, decide_eq_true_eq, decide_eq_false_iff_not, true_or, or_true, true_and, and_true, Int.reduceEq, Int.reduceNeg, eq_self, reduceIte, if_true, if_false] at *; omega)) | (refine ileaf ?_; first | omega | (simp only [small, tiny, rng, decide_eq_true_eq, decide_eq_false_iff_not, true_or, or_true, true_and, and_true, Int.reduceEq, Int.reduceNeg, eq_self, reduceIte, if_true, if_false] at *; omega)) | (exfalso; omega) | (simp only [Prod.mk.injEq, AV.agg.injEq, AV.tup.injEq, List.cons.injEq, AV.int.injEq, AV.bool.injEq, and_true, true_and]; (repeat' apply And.intro) <;> first | with_reducible rfl | (simp []; done) | (simp []; omega) | omega | (simp only [small, tiny, rng, decide_eq_true_eq, decide_eq_false_iff_not, true_or, or_true, true_and, and_true, Int.reduceEq, Int.reduceNeg, eq_self, reduceIte, if_true, if_false] at *; omega) | (simp [small, tiny, rng, decide_eq_true_eq, decide_eq_false_iff_not, true_or, or_true, true_and, and_true, Int.reduceEq, Int.reduceNeg, eq_self, reduceIte, if_true, if_false, *]; done) | (simp [small, tiny, rng, decide_eq_true_eq, decide_eq_false_iff_not, true_or, or_true, true_and, and_true, Int.reduceEq, Int.reduceNeg, eq_self, reduceIte, if_true, if_false, *]; omega)) | (exfalso; simp only [small, tiny, rng, decide_eq_true_eq, decide_eq_false_iff_not, true_or, or_true, true_and, and_true, Int.reduceEq, Int.reduceNeg, eq_self, reduceIte, if_true, if_false] at *; omega) | (simp [small, tiny, rng, decide_eq_true_eq, decide_eq_false_iff_not, true_or, or_true, true_and, and_true, Int.reduceEq, Int.reduceNeg, eq_self, reduceIte, if_true, if_false] at *; done) | (simp [small, tiny, rng, decide_eq_true_eq, decide_eq_false_iff_not, true_or, or_true, true_and, and_true, Int.reduceEq, Int.reduceNeg, eq_self, reduceIte, if_true, if_false] at *; omega)
  · skip
    intro w0
    first | with_reducible rfl | (refine bleaf_t ?_; first | omega | (simp only [small, tiny, rng, decide_eq_true_eq, decide_eq_false_iff_not, true_or, or_true, true_and, and_true, Int.reduceEq, Int.reduceNeg, eq_self, reduceIte, if_true, if_false] at *; omega)) | (refine bleaf_f ?_; first | omega | (simp only [small, tiny, rng, decide_eq_true_eq, decide_eq_false_iff_not, true_or, or_true, true_and, and_true, Int.reduceEq, Int.reduceNeg, eq_self, reduceIte, if_true, if_false] at *; omega)) | (refine ileaf ?_; first | omega | (simp only [small, tiny, rng, decide_eq_true_eq, decide_eq_false_iff_not, true_or, or_true, true_and, and_true, Int.reduceEq, Int.reduceNeg, eq_self, reduceIte, if_true, if_false] at *; omega)) | (exfalso; omega) | (simp only [Prod.mk.injEq, AV.agg.injEq, AV.tup.injEq, List.cons.injEq, AV.int.injEq, AV.bool.injEq, and_true, true_and]; (repeat' apply And.intro) <;> first | with_reducible rfl | (simp []; done) | (simp []; omega) | omega | (simp only [small, tiny, rng, decide_eq_true_eq, decide_eq_false_iff_not, true_or, or_true, true_and, and_true, Int.reduceEq, Int.reduceNeg, eq_self, reduceIte, if_true, if_false] at *; omega) | (simp [small, tiny, rng, decide_eq_true_eq, decide_eq_false_iff_not, true_or, or_true, true_and, and_true, Int.reduceEq, Int.reduceNeg, eq_self, reduceIte, if_true, if_false, *]; done) | (simp [small, tiny, rng, decide_eq_true_eq, decide_eq_false_iff_not, true_or, or_true, true_and, and_true, Int.reduceEq, Int.reduceNeg, eq_self, reduceIte, if_true, if_false, *]; omega)) | (exfalso; simp only [small, tiny, rng, decide_eq_true_eq, decide_eq_false_iff_not, true_or, or_true, true_and, and_true, Int.reduceEq, Int.reduceNeg, eq_self, reduceIte, if_true, if_false] at *; omega) | (simp [small, tiny, rng, decide_eq_true_eq, decide_eq_false_iff_not, true_or, or_true, true_and, and_true, Int.reduceEq, Int.reduceNeg, eq_self, reduceIte, if_true, if_false] at *; done) | (simp [small, tiny, rng, decide_eq_true_eq, decide_eq_false_iff_not, true_or, or_true, true_and, and_true, Int.reduceEq, Int.reduceNeg, eq_self, reduceIte, if_true, if_false] at *; omega)
theorem leave_fl (l : List Row) (x y z : Int) : leave ⟨0, 0, 0⟩ (.tup [.sl (rowsA l) l.length (rm 0 l), .bool true]) ⟨b63 x y z, tk l, []⟩ = (.tup [.sl (rowsA l) l.length (rm 0 l), .bool true], ⟨[], tk l, []⟩) := by
  cases l with
  | nil => rfl
  | cons x l => simp [leave, AV.bnd, AV.bnds, frz, Room.bnd, retok, rm, tk, rowsA_bnds']
theorem r63s (n : Nat) (ih : C63ok n) (t : List Row) (m x y z : Int) (hp : pre63 (n + 1) t m x y z) (p : List Row) (hq : fl t (n + 1) x y z = some p) : ebody Try.prog (Pof (P := Try.prog) []) (Sof [c85r.to, c86.to, C63 n ih]) 2000 (Func.u Try.f63) (bd (Func.u Try.f63)) [rs t .no, I m, sA x y z] .nil = some (.tup [.sl (rowsA p) p.length (rm 0 p), .bool true], ⟨[], tk p, []⟩) := by
  have hm : m ≠ 0 := by have := hp.1; omega
  refine body_wV ([Ans.o (Orc.b false), Ans.loop [(0 : Nat), (1 : Nat), (5 : Nat), (20 : Nat), (21 : Nat), (22 : Nat)] [Out.mk (List Row) AX.ret [(6 : Nat), (7 : Nat)] (fun p => fl t (n + (1 : Nat)) x y z = some p) (fun p => [acc p, AV.bool true]) (fun p => H.mk (b63 x y z) (tk p) []) fun y => [], Out.mk Unit (AX.exit (0 : Nat)) [] (fun x_1 => fl t (n + (1 : Nat)) x y z = none) (fun x => []) (fun x_1 => H.mk (b63 x y z) [] []) fun y => []]]) (m ≠ (0 : Int) ∧ LoopTo (Env.mk Try.prog (Sof [c85r.to, c86.to, C63 n ih]) (Pof (P := Try.prog) []) H.nil.base (2000 : Nat)) (loopAt (Func.u Try.f63) (0 : Nat)) (56 : Nat) [(0 : Nat), (1 : Nat), (5 : Nat), (20 : Nat), (21 : Nat), (22 : Nat)] [AV.sl (rowsA t) t.length Room.no, I m, AV.ptr (0 : Nat) (0 : Nat), AV.sl (rowsA t) t.length Room.no, I (↑t.length : Int), I (0 : Int)] (H.mk [[I x, I y, I z]] [] []) [Out.mk (List Row) AX.ret [(6 : Nat), (7 : Nat)] (fun p => fl t (n + (1 : Nat)) x y z = some p) (fun p => [acc p, AV.bool true]) (fun p => H.mk (b63 x y z) (tk p) []) fun y => [], Out.mk Unit (AX.exit (0 : Nat)) [] (fun x_1 => fl t (n + (1 : Nat)) x y z = none) (fun x => []) (fun x_1 => H.mk (b63 x y z) [] []) fun y => []] ∧ (∀ (y_1 : List Row), fl t (n + (1 : Nat)) x y z = some y_1 → ∀ (u : Nat → AV), leave (Base.mk H.nil.blk.length H.nil.toks.length H.nil.maps.length) (AV.tup [AV.sl (rowsA y_1) y_1.length (rm (0 : Nat) y_1), AV.bool true]) (H.mk [[I x, I y, I z]] (tk y_1) []) = (AV.tup [AV.sl (rowsA p) p.length (rm (0 : Nat) p), AV.bool true], H.mk [] (tk p) [])) ∧ (∀ (y_1 : Unit), fl t (n + (1 : Nat)) x y z = none → ∀ (u : Nat → AV), (AV.tup [AV.sl [] (0 : Nat) Room.nil, AV.bool false], H.mk [] [] []) = (AV.tup [AV.sl (rowsA p) p.length (rm (0 : Nat) p), AV.bool true], H.mk [] (tk p) [])) ∧ True) (by kernel_rfl) ?_
  refine And.intro (by first | assumption | omega | (simp only [small, tiny, rng, decide_eq_true_eq, decide_eq_false_iff_not, true_or, or_true, true_and, and_true, Int.reduceEq, Int.reduceNeg, eq_self, reduceIte, if_true, if_false] at *; omega) | (simp [small, tiny, rng, decide_eq_true_eq, decide_eq_false_iff_not, true_or, or_true, true_and, and_true, Int.reduceEq, Int.reduceNeg, eq_self, reduceIte, if_true, if_false] at *; done)) ?_
  refine And.intro (by exact lp63 n ih t m x y z hp) ?_
  refine And.intro ?_ ?_
  · skip
    intro y
    intro w1
    intro u
    first | (obtain rfl := Option.some.inj (Eq.trans (Eq.symm (by assumption)) hq); exact leave_fl _ _ _ _) | (exfalso; have e := Eq.trans (Eq.symm hq) (by assumption); cases e)
  · skip
    refine And.intro ?_ ?_
    · skip
      intro y
      intro w1
      intro u
      first | (obtain rfl := Option.some.inj (Eq.trans (Eq.symm (by assumption)) hq); exact leave_fl _ _ _ _) | (exfalso; have e := Eq.trans (Eq.symm hq) (by assumption); cases e)
    · skip
      trivial
theorem r63n (n : Nat) (ih : C63ok n) (t : List Row) (m x y z : Int) (hp : pre63 (n + 1) t m x y z) (hq : fl t (n + 1) x y z = none) : ebody Try.prog (Pof (P := Try.prog) []) (Sof [c85r.to, c86.to, C63 n ih]) 2000 (Func.u Try.f63) (bd (Func.u Try.f63)) [rs t .no, I m, sA x y z] .nil = some (.tup [.sl [] 0 .nil, .bool false], .nil) := by
  have hm : m ≠ 0 := by have := hp.1; omega
  refine body_wV ([Ans.o (Orc.b false), Ans.loop [(0 : Nat), (1 : Nat), (5 : Nat), (20 : Nat), (21 : Nat), (22 : Nat)] [Out.mk (List Row) AX.ret [(6 : Nat), (7 : Nat)] (fun p => fl t (n + (1 : Nat)) x y z = some p) (fun p => [acc p, AV.bool true]) (fun p => H.mk (b63 x y z) (tk p) []) fun y => [], Out.mk Unit (AX.exit (0 : Nat)) [] (fun x_1 => fl t (n + (1 : Nat)) x y z = none) (fun x => []) (fun x_1 => H.mk (b63 x y z) [] []) fun y => []]]) (m ≠ (0 : Int) ∧ LoopTo (Env.mk Try.prog (Sof [c85r.to, c86.to, C63 n ih]) (Pof (P := Try.prog) []) H.nil.base (2000 : Nat)) (loopAt (Func.u Try.f63) (0 : Nat)) (56 : Nat) [(0 : Nat), (1 : Nat), (5 : Nat), (20 : Nat), (21 : Nat), (22 : Nat)] [AV.sl (rowsA t) t.length Room.no, I m, AV.ptr (0 : Nat) (0 : Nat), AV.sl (rowsA t) t.length Room.no, I (↑t.length : Int), I (0 : Int)] (H.mk [[I x, I y, I z]] [] []) [Out.mk (List Row) AX.ret [(6 : Nat), (7 : Nat)] (fun p => fl t (n + (1 : Nat)) x y z = some p) (fun p => [acc p, AV.bool true]) (fun p => H.mk (b63 x y z) (tk p) []) fun y => [], Out.mk Unit (AX.exit (0 : Nat)) [] (fun x_1 => fl t (n + (1 : Nat)) x y z = none) (fun x => []) (fun x_1 => H.mk (b63 x y z) [] []) fun y => []] ∧ (∀ (y_1 : List Row), fl t (n + (1 : Nat)) x y z = some y_1 → ∀ (u : Nat → AV), leave (Base.mk H.nil.blk.length H.nil.toks.length H.nil.maps.length) (AV.tup [AV.sl (rowsA y_1) y_1.length (rm (0 : Nat) y_1), AV.bool true]) (H.mk [[I x, I y, I z]] (tk y_1) []) = (AV.tup [AV.sl [] (0 : Nat) Room.nil, AV.bool false], H.mk [] [] [])) ∧ (∀ (y_1 : Unit), fl t (n + (1 : Nat)) x y z = none → ∀ (u : Nat → AV), (AV.tup [AV.sl [] (0 : Nat) Room.nil, AV.bool false], H.mk [] [] []) = (AV.tup [AV.sl [] (0 : Nat) Room.nil, AV.bool false], H.mk [] [] [])) ∧ True) (by kernel_rfl) ?_
  refine And.intro (by first | assumption | omega | (simp only [small, tiny, rng, decide_eq_true_eq, decide_eq_false_iff_not, true_or, or_true, true_and, and_true, Int.reduceEq, Int.reduceNeg, eq_self, reduceIte, if_true, if_false] at *; omega) | (simp [small, tiny, rng, decide_eq_true_eq, decide_eq_false_iff_not, true_or, or_true, true_and, and_true, Int.reduceEq, Int.reduceNeg, eq_self, reduceIte, if_true, if_false] at *; done)) ?_
  refine And.intro (by exact lp63 n ih t m x y z hp) ?_
  refine And.intro ?_ ?_
  · skip
    intro y
    intro w1
    intro u
    first | with_reducible rfl | (exfalso; have e := Eq.trans (Eq.symm hq) (by assumption); cases e)
  · skip
    refine And.intro ?_ ?_
    · skip
      intro y
      intro w1
      intro u
      first | with_reducible rfl | (exfalso; have e := Eq.trans (Eq.symm hq) (by assumption); cases e)
    · skip
      trivial
theorem fl_ok : ∀ n, C63ok n
  | 0 => by
    intro t m x y z hp
    obtain rfl : m = 0 := hp.1
    have := ok63.run (M := (· == 63)) .nil (r63z t x y z)
    by_cases h : x = 0 ∧ y = 0 ∧ z = 0
    · have e : fl t 0 x y z = some [] := by cases t <;> simp [fl, h]
      rw [e]
      obtain ⟨rfl, rfl, rfl⟩ := h
      exact this
    · have e : fl t 0 x y z = none := by cases t <;> simp [fl, h]
      rw [e]
      have e2 : (x == 0 && (y == 0 && (z == 0 && true))) = false := by
        cases q : (x == 0 && (y == 0 && (z == 0 && true)))
        · rfl
        · simp at q; exact absurd q h
      rw [e2] at this
      exact this
  | n + 1 => by
    intro t m x y z hp
    have ih := fl_ok n
    have hc : Ctrs Try.prog (· == 63) [c85r.to, c86.to, C63 n ih] := .pure _ (.pure _ (.eff _ rfl .nil))
    cases hq : fl t (n + 1) x y z with
    | some p => exact ok63.run hc (r63s n ih t m x y z hp p hq)
    | none => exact ok63.run hc (r63n n ih t m x y z hp hq)
end Go.Proofs.Weg
