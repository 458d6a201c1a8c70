/- Layer 4: the reference's peeling. -/
import Derived.Test.YtdnidpojcocklaaDoorLoE
import Derived.Test.YtdnidpojcocklaaDoorLnAa
import Derived.Test.YtdnidpojcocklaaDoorLnN
import Derived.KernelRfl
set_option linter.unusedSimpArgs false
set_option linter.unusedVariables false
set_option linter.unnecessarySimpa false
set_option maxHeartbeats 4000000
set_option maxRecDepth 100000
namespace Go.Proofs.Lrn
open Go Go.VM

theorem app_intsT {P : Program} {t : TypeId} (hT : appT P t = true) {l : List Int} {x : Int} {ts : List Nat} {n : Nat} (ht : ts.length = n) (hn : l.length ≤ 1000000000) :
    aAppend P t t (.sl (ints l) l.length (rm n l)) (.sl [I x] 1 .full) ⟨[], ts ++ tk l, []⟩ = some (.sl (ints (l ++ [x])) (l ++ [x]).length (rm n (l ++ [x])), ⟨[], ts ++ tk (l ++ [x]), []⟩) := by
  obtain ⟨e, i, z, he, hi, hz, h1, h2, h3⟩ := appT_of hT
  have hb : (l.length + 1) * i.bytes ≤ 2 ^ 47 := Nat.le_trans (Nat.mul_le_mul (Nat.succ_le_succ hn) h2) (by decide)
  have hm : l.length + 1 ≤ maxLen := Nat.le_trans (Nat.succ_le_succ hn) (by decide)
  subst ht
  cases l with
  | nil =>
    have hb' : i.bytes ≤ 2 ^ 47 := Nat.le_trans h2 (by decide)
    simp [aAppend, he, hi, hz, h1, h3, slCells, hb', rm, tk, ints, AV.one]
    decide
  | cons y l =>
    have hb2 : (l.length + 1 + 1) * i.bytes ≤ 2 ^ 47 := hb
    have hm2 : l.length + 1 + 1 ≤ maxLen := hm
    simp [aAppend, he, hi, hz, h1, h3, slCells, hb2, hm2, rm, tk, ints, AV.one]
noncomputable def d42 : PCtr Tryd.prog := up c42
noncomputable def d69 : PCtr Tryd.prog := up c69
/-- those with greater keys -/
def nx (p k : Int) (L l : List Int) : List Int := l.filter fun c => !decide (pk (kyW p L c) ≤ k)
theorem nx_succ {p k : Int} {L l : List Int} {j : Nat} (h : j < l.length) : nx p k L (l.take (j + 1)) = if pk (kyW p L (l.getD j i0)) ≤ k then nx p k L (l.take j) else nx p k L (l.take j) ++ [l.getD j i0] := by
  have e : l.getD j i0 = l[j] := by simp [List.getD_eq_getElem?_getD, List.getElem?_eq_getElem h]
  rw [List.take_add_one, List.getElem?_eq_getElem h, e]
  simp only [nx, Option.toList_some, List.filter_append, List.filter_cons, List.filter_nil]
  by_cases hc : pk (kyW p L l[j]) ≤ k <;> simp [hc]
theorem nx_mem {p k : Int} {L l : List Int} {c : Int} : c ∈ nx p k L l ↔ c ∈ l ∧ ¬ pk (kyW p L c) ≤ k := by
  simp only [nx, List.mem_filter, Bool.not_eq_true', decide_eq_false_iff_not]
theorem nx_sOf {p k : Int} {l : List Int} (h0 : p5 p) (hl : inL l) : sOf (nx p k l l) = psS p k (sOf l) := by
  apply BitVec.eq_of_getLsbD_eq
  intro i hi
  have hin : inL (nx p k l l) := fun c hc => hl c (nx_mem.1 hc).1
  rw [Bool.eq_iff_iff, psS_bit hi, sOf_bit hin hi, sOf_bit hl hi, decide_eq_true_eq, decide_eq_true_eq, nx_mem]
  constructor
  · rintro ⟨h1, h2⟩; exact ⟨h1, by rw [key_eq' h0 hl h1]; exact h2⟩
  · rintro ⟨h1, h2⟩; exact ⟨h1, by rw [← key_eq' h0 hl h1]; exact h2⟩
theorem nx_lsn {p k : Int} {l : List Int} {r r' : Room} (h : lsn l r) (hr : rok (nx p k l l) r') : lsn (nx p k l l) r' := by
  have hle : (nx p k l l).length ≤ l.length := List.length_filter_le _ _
  have := h.1.1.1
  exact ⟨⟨⟨by omega, hr⟩, fun c hc => h.1.2 c (nx_mem.1 hc).1⟩, h.2.filter _⟩
theorem nx_same {p k : Int} {l : List Int} (h : ¬ (nx p k l l).length < l.length) : nx p k l l = l := by
  have hle : (nx p k l l).length ≤ l.length := List.length_filter_le _ _
  exact (List.filter_sublist).eq_of_length (by show (nx p k l l).length = l.length; omega)
abbrev hT (ts : List Nat) (l : List Int) : H := ⟨[], ts ++ tk l, []⟩
abbrev o46i (p k : Int) (C L : List Int) (r rL : Room) (ts : List Nat) : List Out :=
  [.mk Unit (.exit 4) [0, 1, 5, 6, 8] (fun _ => True) (fun _ => [I p, ls C r, I k, ls L rL, .sl (ints (nx p k L L)) (nx p k L L).length (rm ts.length (nx p k L L))]) (fun _ => hT ts (nx p k L L)) (fun _ => [])]
theorem simp46i : allSimpleM none1 (loopAt Tryd.f46 2) = true := by kernel_rfl
theorem lp46i (p k : Int) (C L : List Int) (r rL : Room) (ts : List Nat) (n : Nat) (hts : ts.length = n) (h0 : p5 p) (hL : lsn L rL) (E : Env) (hE : E = En5 [d42.to, d69.to]) :
    LoopS E (loopAt Tryd.f46 2) 48 [0, 1, 5, 6, 8, 20, 21, 22] [I p, ls C r, I k, ls L rL, .sl [] 0 .nil, ls L rL, I L.length, I 0] ⟨[], ts, []⟩ (o46i p k C L r rL ts) := by
  subst hE
  have hR : Rests (En5 [d42.to, d69.to]) none1 := rests mixed (.pure _ (.pure _ .nil))
  have ht := tw_bd (p := p)
  have hlen := hL.1.1.1
  refine loop_s hR simp46i none (by intro _ h; cases h) (fun j vs h => h = hT ts (nx p k L (L.take j)) ∧ vs = [I p, ls C r, I k, ls L rL, .sl (ints (nx p k L (L.take j))) (nx p k L (L.take j)).length (rm ts.length (nx p k L (L.take j))), ls L rL, I L.length, I j]) L.length ⟨by simp [nx, tk], rfl⟩ (by intro _ h; cases h) ?_
  rintro j vs h hj ⟨rfl, rfl⟩
  by_cases hz : (j : Int) < L.length
  · have hz' : j < L.length := by omega
    have hr := rok_idx hL.1.1.2 hz'
    have hs := nx_succ (p := p) (k := k) (L := L) hz'
    have z42 : p5 p ∧ lim L.length ∧ rok L rL := ⟨h0, by simp only [lim]; omega, hL.1.1.2⟩
    have z69 : is32 (kyW p L (L.getD j i0)) := by
      obtain ⟨_, _⟩ := kyW_bd p L (L.getD j i0)
      exact ⟨by omega, by omega⟩
    have hle : (nx p k L (L.take j)).length ≤ (L.take j).length := List.length_filter_le _ _
    have hle2 : (L.take j).length ≤ L.length := by simp; omega
    have hle3 : (nx p k L (L.take j)).length ≤ 1000000000 := by omega
    by_cases hk : pk (kyW p L (L.getD j i0)) ≤ k
    · rw [if_pos hk] at hs
      refine ⟨[Ans.o (Orc.b true), Ans.o (Orc.val (24 : Nat) (AV.cptr (ints (List.drop j L))) (hT ts (nx p k L (List.take j L)))), Ans.o (Orc.val (25 : Nat) (I (L.getD j i0)) (hT ts (nx p k L (List.take j L)))), Ans.o (Orc.val (29 : Nat) (I (kyW p L (L.getD j i0))) (H.mk [] (ts ++ tk (nx p k L (List.take j L))) [])), Ans.o (Orc.val (30 : Nat) (I (pk (kyW p L (L.getD j i0)))) (H.mk [] (ts ++ tk (nx p k L (List.take j L))) [])), Ans.o (Orc.b false)], fun u => of_eq ((↑j : Int) < (↑L.length : Int) ∧ aIndexAddr Tryd.prog (22 : Nat) (AV.sl (ints L) L.length rL) (I (↑j : Int)) = some (AV.cptr (ints (List.drop j L))) ∧ aLoad Tryd.prog (3 : Nat) (ints (List.drop j L)) = some (I (L.getD j i0)) ∧ aCall (Sof [d42.to, d69.to]) (AV.fn (Fn.func (42 : Nat)) [] []) [I p, AV.sl (ints L) L.length rL, I (L.getD j i0)] (H.mk [] (ts ++ tk (nx p k L (List.take j L))) []) = some (I (kyW p L (L.getD j i0)), H.mk [] (ts ++ tk (nx p k L (List.take j L))) []) ∧ aCall (Sof [d42.to, d69.to]) (AV.fn (Fn.func (69 : Nat)) [] []) [I (kyW p L (L.getD j i0))] (H.mk [] (ts ++ tk (nx p k L (List.take j L))) []) = some (I (pk (kyW p L (L.getD j i0))), H.mk [] (ts ++ tk (nx p k L (List.take j L))) []) ∧ pk (kyW p L (L.getD j i0)) ≤ k ∧ IntKind.i64.wrap ((↑j : Int) + (1 : Int)) = (↑j : Int) + (1 : Int) ∧ (48 : Nat) = (48 : Nat) ∧ j < L.length ∧ Keep (H.mk [] (ts ++ tk (nx p k L (List.take j L))) [] = H.mk [] (ts ++ tk (nx p k L (List.take (j + (1 : Nat)) L))) [] ∧ [I p, AV.sl (ints C) C.length r, I k, AV.sl (ints L) L.length rL, AV.sl (ints (nx p k L (List.take j L))) (nx p k L (List.take j L)).length (rm ts.length (nx p k L (List.take j L))), AV.sl (ints L) L.length rL, I (↑L.length : Int), I ((↑j : Int) + (1 : Int))] = [I p, AV.sl (ints C) C.length r, I k, AV.sl (ints L) L.length rL, AV.sl (ints (nx p k L (List.take (j + (1 : Nat)) L))) (nx p k L (List.take (j + (1 : Nat)) L)).length (rm ts.length (nx p k L (List.take (j + (1 : Nat)) L))), AV.sl (ints L) L.length rL, I (↑L.length : Int), I (↑(j + (1 : Nat)) : Int)])) (by kernel_rfl) ?_⟩
      refine And.intro (by first | assumption | omega | (simp only [small, tiny, rng, decide_eq_true_eq, decide_eq_false_iff_not, true_or, or_true, true_and, and_true, Int.reduceEq, Int.reduceNeg, eq_self, reduceIte, if_true, if_false] at *; omega) | (simp [small, tiny, rng, decide_eq_true_eq, decide_eq_false_iff_not, true_or, or_true, true_and, and_true, Int.reduceEq, Int.reduceNeg, eq_self, reduceIte, if_true, if_false] at *; done)) ?_
      refine And.intro (by first | exact ix_ints (by kernel_rfl) (by omega) (by assumption) | exact ix_ints (by kernel_rfl) (by omega) (rok_idx (by assumption) (by omega))) ?_
      refine And.intro (by exact ld_ints (by kernel_rfl) (by kernel_rfl) (by omega)) ?_
      refine And.intro (by exact acall_hit (c := d42.to) (p, L, rL, L.getD j i0) _ rfl z42) ?_
      refine And.intro (by exact acall_hit (c := d69.to) (kyW p L (L.getD j i0)) _ rfl z69) ?_
      refine And.intro (by first | assumption | omega | (simp only [small, tiny, rng, decide_eq_true_eq, decide_eq_false_iff_not, true_or, or_true, true_and, and_true, Int.reduceEq, Int.reduceNeg, eq_self, reduceIte, if_true, if_false] at *; omega) | (simp [small, tiny, rng, decide_eq_true_eq, decide_eq_false_iff_not, true_or, or_true, true_and, and_true, Int.reduceEq, Int.reduceNeg, eq_self, reduceIte, if_true, if_false] at *; done)) ?_
      refine And.intro (by first | exact wr _ (by omega) (by omega) | (refine wr _ ?_ ?_ <;> (simp only [small, tiny, rng, decide_eq_true_eq, decide_eq_false_iff_not, true_or, or_true, true_and, and_true, Int.reduceEq, Int.reduceNeg, eq_self, reduceIte, if_true, if_false] at *; omega))) ?_
      refine And.intro (by first | assumption | omega | (simp only [small, tiny, rng, decide_eq_true_eq, decide_eq_false_iff_not, true_or, or_true, true_and, and_true, Int.reduceEq, Int.reduceNeg, eq_self, reduceIte, if_true, if_false] at *; omega) | (simp [small, tiny, rng, decide_eq_true_eq, decide_eq_false_iff_not, true_or, or_true, true_and, and_true, Int.reduceEq, Int.reduceNeg, eq_self, reduceIte, if_true, if_false] at *; done)) ?_
      refine And.intro (by first | assumption | omega | (simp only [small, tiny, rng, decide_eq_true_eq, decide_eq_false_iff_not, true_or, or_true, true_and, and_true, Int.reduceEq, Int.reduceNeg, eq_self, reduceIte, if_true, if_false] at *; omega) | (simp [small, tiny, rng, decide_eq_true_eq, decide_eq_false_iff_not, true_or, or_true, true_and, and_true, Int.reduceEq, Int.reduceNeg, eq_self, reduceIte, if_true, if_false] at *; done)) ?_
      (show _ = _ ∧ _ = _; rw [hs]; exact ⟨rfl, rfl⟩)
    · rw [if_neg hk] at hs
      have hk : k < pk (kyW p L (L.getD j i0)) := by omega
      refine ⟨[Ans.o (Orc.b true), Ans.o (Orc.val (24 : Nat) (AV.cptr (ints (List.drop j L))) (hT ts (nx p k L (List.take j L)))), Ans.o (Orc.val (25 : Nat) (I (L.getD j i0)) (hT ts (nx p k L (List.take j L)))), Ans.o (Orc.val (29 : Nat) (I (kyW p L (L.getD j i0))) (H.mk [] (ts ++ tk (nx p k L (List.take j L))) [])), Ans.o (Orc.val (30 : Nat) (I (pk (kyW p L (L.getD j i0)))) (H.mk [] (ts ++ tk (nx p k L (List.take j L))) [])), Ans.o (Orc.b true), Ans.o (Orc.val (36 : Nat) (AV.sl (ints (nx p k L (List.take j L) ++ [L.getD j i0])) (nx p k L (List.take j L) ++ [L.getD j i0]).length (rm ts.length (nx p k L (List.take j L) ++ [L.getD j i0]))) (H.mk [] (ts ++ tk (nx p k L (List.take j L) ++ [L.getD j i0])) []))], fun u => of_eq ((↑j : Int) < (↑L.length : Int) ∧ aIndexAddr Tryd.prog (22 : Nat) (AV.sl (ints L) L.length rL) (I (↑j : Int)) = some (AV.cptr (ints (List.drop j L))) ∧ aLoad Tryd.prog (3 : Nat) (ints (List.drop j L)) = some (I (L.getD j i0)) ∧ aCall (Sof [d42.to, d69.to]) (AV.fn (Fn.func (42 : Nat)) [] []) [I p, AV.sl (ints L) L.length rL, I (L.getD j i0)] (H.mk [] (ts ++ tk (nx p k L (List.take j L))) []) = some (I (kyW p L (L.getD j i0)), H.mk [] (ts ++ tk (nx p k L (List.take j L))) []) ∧ aCall (Sof [d42.to, d69.to]) (AV.fn (Fn.func (69 : Nat)) [] []) [I (kyW p L (L.getD j i0))] (H.mk [] (ts ++ tk (nx p k L (List.take j L))) []) = some (I (pk (kyW p L (L.getD j i0))), H.mk [] (ts ++ tk (nx p k L (List.take j L))) []) ∧ k < pk (kyW p L (L.getD j i0)) ∧ aAppend Tryd.prog (22 : Nat) (22 : Nat) (AV.sl (ints (nx p k L (List.take j L))) (nx p k L (List.take j L)).length (rm ts.length (nx p k L (List.take j L)))) (AV.sl [I (L.getD j i0)] (1 : Nat) Room.full) (H.mk [] (ts ++ tk (nx p k L (List.take j L))) []) = some (AV.sl (ints (nx p k L (List.take j L) ++ [L.getD j i0])) (nx p k L (List.take j L) ++ [L.getD j i0]).length (rm ts.length (nx p k L (List.take j L) ++ [L.getD j i0])), H.mk [] (ts ++ tk (nx p k L (List.take j L) ++ [L.getD j i0])) []) ∧ IntKind.i64.wrap ((↑j : Int) + (1 : Int)) = (↑j : Int) + (1 : Int) ∧ (48 : Nat) = (48 : Nat) ∧ j < L.length ∧ Keep (H.mk [] (ts ++ tk (nx p k L (List.take j L) ++ [L.getD j i0])) [] = H.mk [] (ts ++ tk (nx p k L (List.take (j + (1 : Nat)) L))) [] ∧ [I p, AV.sl (ints C) C.length r, I k, AV.sl (ints L) L.length rL, AV.sl (ints (nx p k L (List.take j L) ++ [L.getD j i0])) (nx p k L (List.take j L) ++ [L.getD j i0]).length (rm ts.length (nx p k L (List.take j L) ++ [L.getD j i0])), AV.sl (ints L) L.length rL, I (↑L.length : Int), I ((↑j : Int) + (1 : Int))] = [I p, AV.sl (ints C) C.length r, I k, AV.sl (ints L) L.length rL, AV.sl (ints (nx p k L (List.take (j + (1 : Nat)) L))) (nx p k L (List.take (j + (1 : Nat)) L)).length (rm ts.length (nx p k L (List.take (j + (1 : Nat)) L))), AV.sl (ints L) L.length rL, I (↑L.length : Int), I (↑(j + (1 : Nat)) : Int)])) (by kernel_rfl) ?_⟩
      refine And.intro (by first | assumption | omega | (simp only [small, tiny, rng, decide_eq_true_eq, decide_eq_false_iff_not, true_or, or_true, true_and, and_true, Int.reduceEq, Int.reduceNeg, eq_self, reduceIte, if_true, if_false] at *; omega) | (simp [small, tiny, rng, decide_eq_true_eq, decide_eq_false_iff_not, true_or, or_true, true_and, and_true, Int.reduceEq, Int.reduceNeg, eq_self, reduceIte, if_true, if_false] at *; done)) ?_
      refine And.intro (by first | exact ix_ints (by kernel_rfl) (by omega) (by assumption) | exact ix_ints (by kernel_rfl) (by omega) (rok_idx (by assumption) (by omega))) ?_
      refine And.intro (by exact ld_ints (by kernel_rfl) (by kernel_rfl) (by omega)) ?_
      refine And.intro (by exact acall_hit (c := d42.to) (p, L, rL, L.getD j i0) _ rfl z42) ?_
      refine And.intro (by exact acall_hit (c := d69.to) (kyW p L (L.getD j i0)) _ rfl z69) ?_
      refine And.intro (by first | assumption | omega | (simp only [small, tiny, rng, decide_eq_true_eq, decide_eq_false_iff_not, true_or, or_true, true_and, and_true, Int.reduceEq, Int.reduceNeg, eq_self, reduceIte, if_true, if_false] at *; omega) | (simp [small, tiny, rng, decide_eq_true_eq, decide_eq_false_iff_not, true_or, or_true, true_and, and_true, Int.reduceEq, Int.reduceNeg, eq_self, reduceIte, if_true, if_false] at *; done)) ?_
      refine And.intro (by exact app_intsT (by kernel_rfl) rfl hle3) ?_
      refine And.intro (by first | exact wr _ (by omega) (by omega) | (refine wr _ ?_ ?_ <;> (simp only [small, tiny, rng, decide_eq_true_eq, decide_eq_false_iff_not, true_or, or_true, true_and, and_true, Int.reduceEq, Int.reduceNeg, eq_self, reduceIte, if_true, if_false] at *; omega))) ?_
      refine And.intro (by first | assumption | omega | (simp only [small, tiny, rng, decide_eq_true_eq, decide_eq_false_iff_not, true_or, or_true, true_and, and_true, Int.reduceEq, Int.reduceNeg, eq_self, reduceIte, if_true, if_false] at *; omega) | (simp [small, tiny, rng, decide_eq_true_eq, decide_eq_false_iff_not, true_or, or_true, true_and, and_true, Int.reduceEq, Int.reduceNeg, eq_self, reduceIte, if_true, if_false] at *; done)) ?_
      refine And.intro (by first | assumption | omega | (simp only [small, tiny, rng, decide_eq_true_eq, decide_eq_false_iff_not, true_or, or_true, true_and, and_true, Int.reduceEq, Int.reduceNeg, eq_self, reduceIte, if_true, if_false] at *; omega) | (simp [small, tiny, rng, decide_eq_true_eq, decide_eq_false_iff_not, true_or, or_true, true_and, and_true, Int.reduceEq, Int.reduceNeg, eq_self, reduceIte, if_true, if_false] at *; done)) ?_
      (show _ = _ ∧ _ = _; rw [hs]; exact ⟨rfl, rfl⟩)
  · have hz : (L.length : Int) ≤ j := by omega
    have e : j = L.length := by omega
    subst e
    refine ⟨[Ans.o (Orc.b false)], fun u => of_eq ((↑L.length : Int) ≤ (↑L.length : Int) ∧ (48 : Nat) = (48 : Nat) ∧ hits [Out.mk Unit (AX.exit (4 : Nat)) [(0 : Nat), (1 : Nat), (5 : Nat), (6 : Nat), (8 : Nat)] (fun x => True) (fun x => [I p, ls C r, I k, ls L rL, AV.sl (ints (nx p k L L)) (nx p k L L).length (rm ts.length (nx p k L L))]) (fun x => hT ts (nx p k L L)) fun x => []] (AX.exit (4 : Nat)) [I p, AV.sl (ints C) C.length r, u (2 : Nat), u (3 : Nat), u (4 : Nat), I k, AV.sl (ints L) L.length rL, u (7 : Nat), AV.sl (ints (nx p k L (List.take L.length L))) (nx p k L (List.take L.length L)).length (rm ts.length (nx p k L (List.take L.length L))), u (9 : Nat), u (10 : Nat), u (11 : Nat), u (12 : Nat), u (13 : Nat), u (14 : Nat), u (15 : Nat), u (16 : Nat), u (17 : Nat), u (18 : Nat), u (19 : Nat), AV.sl (ints L) L.length rL, I (↑L.length : Int), I (↑L.length : Int), AV.bool false, u (24 : Nat), u (25 : Nat), u (26 : Nat), u (27 : Nat), u (28 : Nat), u (29 : Nat), u (30 : Nat), u (31 : Nat), u (32 : Nat), u (33 : Nat), u (34 : Nat), u (35 : Nat), u (36 : Nat), u (37 : Nat), u (38 : Nat), u (39 : Nat), u (40 : Nat), u (41 : Nat), u (42 : Nat), u (43 : Nat), u (44 : Nat), u (45 : Nat), u (46 : Nat), u (47 : Nat)] (H.mk [] (ts ++ tk (nx p k L (List.take L.length L))) [])) (by kernel_rfl) ?_⟩
    refine And.intro (by first | assumption | omega | (simp only [small, tiny, rng, decide_eq_true_eq, decide_eq_false_iff_not, true_or, or_true, true_and, and_true, Int.reduceEq, Int.reduceNeg, eq_self, reduceIte, if_true, if_false] at *; omega) | (simp [small, tiny, rng, decide_eq_true_eq, decide_eq_false_iff_not, true_or, or_true, true_and, and_true, Int.reduceEq, Int.reduceNeg, eq_self, reduceIte, if_true, if_false] at *; done)) ?_
    refine And.intro (by first | assumption | omega | (simp only [small, tiny, rng, decide_eq_true_eq, decide_eq_false_iff_not, true_or, or_true, true_and, and_true, Int.reduceEq, Int.reduceNeg, eq_self, reduceIte, if_true, if_false] at *; omega) | (simp [small, tiny, rng, decide_eq_true_eq, decide_eq_false_iff_not, true_or, or_true, true_and, and_true, Int.reduceEq, Int.reduceNeg, eq_self, reduceIte, if_true, if_false] at *; done)) ?_
    exact .inl ⟨(), trivial, rfl, by first | rfl | (rw [List.take_length]; rfl), by first | rfl | rw [List.take_length]⟩
abbrev o46m (p k : Int) (C : List Int) (r : Room) (b : BitVec 32) : List Out :=
  [.mk (List Int × Room × List Nat) (.exit 2) [0, 1, 5, 6] (fun x => plV p k b = decide (x.1 = []) ∧ x.1.length ≤ 1000) (fun x => [I p, ls C r, I k, ls x.1 x.2.1]) (fun x => ⟨[], x.2.2, []⟩) (fun _ => [])]
theorem simp46m : allSimpleM none1 (loopAt Tryd.f46 1) = true := by kernel_rfl
theorem lp46m (p k : Int) (C : List Int) (r : Room) (ts : List Nat) (h0 : p5 p) (hC : lsn C r) (E : Env) (hE : E = En5 [d42.to, d69.to]) :
    LoopS E (loopAt Tryd.f46 1) 48 [0, 1, 5, 6, 7] [I p, ls C r, I k, ls C r, .bool true] ⟨[], ts, []⟩ (o46m p k C r (sOf C)) := by
  have hE' := hE
  subst hE
  have hR : Rests (En5 [d42.to, d69.to]) none1 := rests mixed (.pure _ (.pure _ .nil))
  refine loop_s hR simp46m none (by intro _ h; cases h) (fun j vs h => ∃ (L : List Int) (rL : Room) (us : List Nat) (ag : Bool), h = ⟨[], us, []⟩ ∧ vs = [I p, ls C r, I k, ls L rL, .bool ag] ∧ lsn L rL ∧ plV p k (sOf C) = (if ag = true then plV p k (sOf L) else decide (L = [])) ∧ (ag = true → pc (sOf L) + j ≤ 33) ∧ j ≤ 34) 34 ⟨C, r, ts, true, rfl, rfl, hC, by simp, fun _ => by have := pc_le (sOf C); omega, by omega⟩ (by intro _ h; cases h) ?_
  rintro j vs h hj ⟨L, rL, us, ag, rfl, rfl, hL, ha, hb, hj2⟩
  have hlen := hL.1.1.1
  cases ag with
  | false =>
    have ha : plV p k (sOf C) = decide (L = []) := by simpa using ha
    refine ⟨[], fun u => of_eq ((48 : Nat) = (48 : Nat) ∧ hits [Out.mk (List Int × Room × List Nat) (AX.exit (2 : Nat)) [(0 : Nat), (1 : Nat), (5 : Nat), (6 : Nat)] (fun x => plV p k (sOf C) = decide (x.fst = []) ∧ x.fst.length ≤ (1000 : Nat)) (fun x => [I p, ls C r, I k, ls x.fst x.snd.fst]) (fun x => H.mk [] x.snd.snd []) fun x => []] (AX.exit (2 : Nat)) [I p, AV.sl (ints C) C.length r, u (2 : Nat), u (3 : Nat), u (4 : Nat), I k, AV.sl (ints L) L.length rL, AV.bool false, u (8 : Nat), u (9 : Nat), u (10 : Nat), u (11 : Nat), u (12 : Nat), u (13 : Nat), AV.bool false, AV.bool false, AV.tup [], AV.tup [], AV.tup [], AV.bool false, u (20 : Nat), u (21 : Nat), u (22 : Nat), u (23 : Nat), u (24 : Nat), u (25 : Nat), u (26 : Nat), u (27 : Nat), u (28 : Nat), u (29 : Nat), u (30 : Nat), u (31 : Nat), u (32 : Nat), u (33 : Nat), u (34 : Nat), u (35 : Nat), u (36 : Nat), u (37 : Nat), u (38 : Nat), u (39 : Nat), u (40 : Nat), u (41 : Nat), u (42 : Nat), u (43 : Nat), u (44 : Nat), u (45 : Nat), u (46 : Nat), u (47 : Nat)] (H.mk [] us [])) (by kernel_rfl) ?_⟩
    refine And.intro (by first | assumption | omega | (simp only [small, tiny, rng, decide_eq_true_eq, decide_eq_false_iff_not, true_or, or_true, true_and, and_true, Int.reduceEq, Int.reduceNeg, eq_self, reduceIte, if_true, if_false] at *; omega) | (simp [small, tiny, rng, decide_eq_true_eq, decide_eq_false_iff_not, true_or, or_true, true_and, and_true, Int.reduceEq, Int.reduceNeg, eq_self, reduceIte, if_true, if_false] at *; done)) ?_
    exact .inl ⟨(L, rL, us), ⟨ha, hlen⟩, rfl, rfl, rfl⟩
  | true =>
    have ha : plV p k (sOf C) = plV p k (sOf L) := by simpa using ha
    have hb := hb rfl
    by_cases hz : (0 : Int) < L.length
    · have hne : L ≠ [] := fun e => by rw [e] at hz; simp at hz
      have hsz : sOf L ≠ 0#32 := fun e => hne ((sOf_nil hL.1.2).1 e)
      have hns := nx_sOf (k := k) h0 hL.1.2
      have hro : rok (nx p k L L) (rm us.length (nx p k L L)) := by cases nx p k L L <;> simp [rok, rm]
      have hln := nx_lsn (k := k) hL hro
      have hj3 : j < 34 := by omega
      by_cases hlt : ((nx p k L L).length : Int) < L.length
      · have hlt' : (nx p k L L).length < L.length := by omega
        have hps : psS p k (sOf L) ≠ sOf L := fun e => by
          have h1 := pc_len hln.1.2 hln.2
          have h2 := pc_len hL.1.2 hL.2
          rw [hns, e] at h1
          omega
        have hp := psS_lt hps
        have hb2 : pc (sOf (nx p k L L)) + (j + 1) ≤ 33 := by rw [hns]; omega
        have ha2 : plV p k (sOf C) = plV p k (sOf (nx p k L L)) := by rw [ha, hns]; exact plV_go hsz hps
        refine ⟨[Ans.o (Orc.b true), Ans.loop [(0 : Nat), (1 : Nat), (5 : Nat), (6 : Nat), (8 : Nat), (20 : Nat), (21 : Nat), (22 : Nat)] [Out.mk Unit (AX.exit (4 : Nat)) [(0 : Nat), (1 : Nat), (5 : Nat), (6 : Nat), (8 : Nat)] (fun x => True) (fun x => [I p, ls C r, I k, ls L rL, AV.sl (ints (nx p k L L)) (nx p k L L).length (rm us.length (nx p k L L))]) (fun x => hT us (nx p k L L)) fun y => [Ans.o (Orc.b true)]]], fun u => of_eq ((0 : Int) < (↑L.length : Int) ∧ LoopS (Env.mk Tryd.prog (Sof [d42.to, d69.to]) (Pof (P := Tryd.prog) []) H.nil.base (300 : Nat)) (loopAt Tryd.f46 (2 : Nat)) (48 : Nat) [(0 : Nat), (1 : Nat), (5 : Nat), (6 : Nat), (8 : Nat), (20 : Nat), (21 : Nat), (22 : Nat)] [I p, AV.sl (ints C) C.length r, I k, AV.sl (ints L) L.length rL, AV.sl [] (0 : Nat) Room.nil, AV.sl (ints L) L.length rL, I (↑L.length : Int), I (0 : Int)] (H.mk [] us []) [Out.mk Unit (AX.exit (4 : Nat)) [(0 : Nat), (1 : Nat), (5 : Nat), (6 : Nat), (8 : Nat)] (fun x => True) (fun x => [I p, ls C r, I k, ls L rL, AV.sl (ints (nx p k L L)) (nx p k L L).length (rm us.length (nx p k L L))]) (fun x => hT us (nx p k L L)) fun y => [Ans.o (Orc.b true)]] ∧ (∀ (y : Unit), True → ∀ (u : Nat → AV), (↑(nx p k L L).length : Int) < (↑L.length : Int) ∧ (48 : Nat) = (48 : Nat) ∧ j < (34 : Nat) ∧ Keep (∃ L_1 rL us_1 ag, H.mk [] (us ++ tk (nx p k L L)) [] = H.mk [] us_1 [] ∧ [I p, AV.sl (ints C) C.length r, I k, AV.sl (ints (nx p k L L)) (nx p k L L).length (rm us.length (nx p k L L)), AV.bool true] = [I p, AV.sl (ints C) C.length r, I k, AV.sl (ints L_1) L_1.length rL, AV.bool ag] ∧ lsn L_1 rL ∧ (plV p k (sOf C) = if ag = true then plV p k (sOf L_1) else decide (L_1 = [])) ∧ (ag = true → pc (sOf L_1) + (j + (1 : Nat)) ≤ (33 : Nat)) ∧ j + (1 : Nat) ≤ (34 : Nat))) ∧ True) (by kernel_rfl) ?_⟩
        refine And.intro (by first | assumption | omega | (simp only [small, tiny, rng, decide_eq_true_eq, decide_eq_false_iff_not, true_or, or_true, true_and, and_true, Int.reduceEq, Int.reduceNeg, eq_self, reduceIte, if_true, if_false] at *; omega) | (simp [small, tiny, rng, decide_eq_true_eq, decide_eq_false_iff_not, true_or, or_true, true_and, and_true, Int.reduceEq, Int.reduceNeg, eq_self, reduceIte, if_true, if_false] at *; done)) ?_
        refine And.intro (by exact lp46i p k C L r rL us _ rfl h0 hL _ rfl) ?_
        refine And.intro ?_ ?_
        · skip
          intro y
          intro w1
          intro u
          refine And.intro (by first | assumption | omega | (simp only [small, tiny, rng, decide_eq_true_eq, decide_eq_false_iff_not, true_or, or_true, true_and, and_true, Int.reduceEq, Int.reduceNeg, eq_self, reduceIte, if_true, if_false] at *; omega) | (simp [small, tiny, rng, decide_eq_true_eq, decide_eq_false_iff_not, true_or, or_true, true_and, and_true, Int.reduceEq, Int.reduceNeg, eq_self, reduceIte, if_true, if_false] at *; done)) ?_
          refine And.intro (by first | assumption | omega | (simp only [small, tiny, rng, decide_eq_true_eq, decide_eq_false_iff_not, true_or, or_true, true_and, and_true, Int.reduceEq, Int.reduceNeg, eq_self, reduceIte, if_true, if_false] at *; omega) | (simp [small, tiny, rng, decide_eq_true_eq, decide_eq_false_iff_not, true_or, or_true, true_and, and_true, Int.reduceEq, Int.reduceNeg, eq_self, reduceIte, if_true, if_false] at *; done)) ?_
          refine And.intro (by first | assumption | omega | (simp only [small, tiny, rng, decide_eq_true_eq, decide_eq_false_iff_not, true_or, or_true, true_and, and_true, Int.reduceEq, Int.reduceNeg, eq_self, reduceIte, if_true, if_false] at *; omega) | (simp [small, tiny, rng, decide_eq_true_eq, decide_eq_false_iff_not, true_or, or_true, true_and, and_true, Int.reduceEq, Int.reduceNeg, eq_self, reduceIte, if_true, if_false] at *; done)) ?_
          exact ⟨_, _, _, true, rfl, rfl, hln, by rw [ha2]; rfl, fun _ => hb2, by omega⟩
        · skip
          trivial
      · have hsm := nx_same (p := p) (k := k) (l := L) (by omega)
        have hps : psS p k (sOf L) = sOf L := by rw [← hns, hsm]
        have ha2 : plV p k (sOf C) = decide (nx p k L L = []) := by rw [ha, plV_stop hsz hps, hsm, decide_eq_false hne]
        have hlt : (L.length : Int) ≤ (nx p k L L).length := by omega
        refine ⟨[Ans.o (Orc.b true), Ans.loop [(0 : Nat), (1 : Nat), (5 : Nat), (6 : Nat), (8 : Nat), (20 : Nat), (21 : Nat), (22 : Nat)] [Out.mk Unit (AX.exit (4 : Nat)) [(0 : Nat), (1 : Nat), (5 : Nat), (6 : Nat), (8 : Nat)] (fun x => True) (fun x => [I p, ls C r, I k, ls L rL, AV.sl (ints (nx p k L L)) (nx p k L L).length (rm us.length (nx p k L L))]) (fun x => hT us (nx p k L L)) fun y => [Ans.o (Orc.b false)]]], fun u => of_eq ((0 : Int) < (↑L.length : Int) ∧ LoopS (Env.mk Tryd.prog (Sof [d42.to, d69.to]) (Pof (P := Tryd.prog) []) H.nil.base (300 : Nat)) (loopAt Tryd.f46 (2 : Nat)) (48 : Nat) [(0 : Nat), (1 : Nat), (5 : Nat), (6 : Nat), (8 : Nat), (20 : Nat), (21 : Nat), (22 : Nat)] [I p, AV.sl (ints C) C.length r, I k, AV.sl (ints L) L.length rL, AV.sl [] (0 : Nat) Room.nil, AV.sl (ints L) L.length rL, I (↑L.length : Int), I (0 : Int)] (H.mk [] us []) [Out.mk Unit (AX.exit (4 : Nat)) [(0 : Nat), (1 : Nat), (5 : Nat), (6 : Nat), (8 : Nat)] (fun x => True) (fun x => [I p, ls C r, I k, ls L rL, AV.sl (ints (nx p k L L)) (nx p k L L).length (rm us.length (nx p k L L))]) (fun x => hT us (nx p k L L)) fun y => [Ans.o (Orc.b false)]] ∧ (∀ (y : Unit), True → ∀ (u : Nat → AV), (↑L.length : Int) ≤ (↑(nx p k L L).length : Int) ∧ (48 : Nat) = (48 : Nat) ∧ j < (34 : Nat) ∧ Keep (∃ L_1 rL us_1 ag, H.mk [] (us ++ tk (nx p k L L)) [] = H.mk [] us_1 [] ∧ [I p, AV.sl (ints C) C.length r, I k, AV.sl (ints (nx p k L L)) (nx p k L L).length (rm us.length (nx p k L L)), AV.bool false] = [I p, AV.sl (ints C) C.length r, I k, AV.sl (ints L_1) L_1.length rL, AV.bool ag] ∧ lsn L_1 rL ∧ (plV p k (sOf C) = if ag = true then plV p k (sOf L_1) else decide (L_1 = [])) ∧ (ag = true → pc (sOf L_1) + (j + (1 : Nat)) ≤ (33 : Nat)) ∧ j + (1 : Nat) ≤ (34 : Nat))) ∧ True) (by kernel_rfl) ?_⟩
        refine And.intro (by first | assumption | omega | (simp only [small, tiny, rng, decide_eq_true_eq, decide_eq_false_iff_not, true_or, or_true, true_and, and_true, Int.reduceEq, Int.reduceNeg, eq_self, reduceIte, if_true, if_false] at *; omega) | (simp [small, tiny, rng, decide_eq_true_eq, decide_eq_false_iff_not, true_or, or_true, true_and, and_true, Int.reduceEq, Int.reduceNeg, eq_self, reduceIte, if_true, if_false] at *; done)) ?_
        refine And.intro (by exact lp46i p k C L r rL us _ rfl h0 hL _ rfl) ?_
        refine And.intro ?_ ?_
        · skip
          intro y
          intro w1
          intro u
          refine And.intro (by first | assumption | omega | (simp only [small, tiny, rng, decide_eq_true_eq, decide_eq_false_iff_not, true_or, or_true, true_and, and_true, Int.reduceEq, Int.reduceNeg, eq_self, reduceIte, if_true, if_false] at *; omega) | (simp [small, tiny, rng, decide_eq_true_eq, decide_eq_false_iff_not, true_or, or_true, true_and, and_true, Int.reduceEq, Int.reduceNeg, eq_self, reduceIte, if_true, if_false] at *; done)) ?_
          refine And.intro (by first | assumption | omega | (simp only [small, tiny, rng, decide_eq_true_eq, decide_eq_false_iff_not, true_or, or_true, true_and, and_true, Int.reduceEq, Int.reduceNeg, eq_self, reduceIte, if_true, if_false] at *; omega) | (simp [small, tiny, rng, decide_eq_true_eq, decide_eq_false_iff_not, true_or, or_true, true_and, and_true, Int.reduceEq, Int.reduceNeg, eq_self, reduceIte, if_true, if_false] at *; done)) ?_
          refine And.intro (by first | assumption | omega | (simp only [small, tiny, rng, decide_eq_true_eq, decide_eq_false_iff_not, true_or, or_true, true_and, and_true, Int.reduceEq, Int.reduceNeg, eq_self, reduceIte, if_true, if_false] at *; omega) | (simp [small, tiny, rng, decide_eq_true_eq, decide_eq_false_iff_not, true_or, or_true, true_and, and_true, Int.reduceEq, Int.reduceNeg, eq_self, reduceIte, if_true, if_false] at *; done)) ?_
          exact ⟨_, _, _, false, rfl, rfl, hln, by rw [ha2]; rfl, (by intro h; cases h), by omega⟩
        · skip
          trivial
    · have hn : L = [] := List.length_eq_zero_iff.1 (by omega)
      have hz : (L.length : Int) ≤ 0 := by omega
      have ha : plV p k (sOf C) = decide (L = []) := by rw [ha, hn]; exact plV_0 p k
      refine ⟨[Ans.o (Orc.b false)], fun u => of_eq ((↑L.length : Int) ≤ (0 : Int) ∧ (48 : Nat) = (48 : Nat) ∧ hits [Out.mk (List Int × Room × List Nat) (AX.exit (2 : Nat)) [(0 : Nat), (1 : Nat), (5 : Nat), (6 : Nat)] (fun x => plV p k (sOf C) = decide (x.fst = []) ∧ x.fst.length ≤ (1000 : Nat)) (fun x => [I p, ls C r, I k, ls x.fst x.snd.fst]) (fun x => H.mk [] x.snd.snd []) fun x => []] (AX.exit (2 : Nat)) [I p, AV.sl (ints C) C.length r, u (2 : Nat), u (3 : Nat), u (4 : Nat), I k, AV.sl (ints L) L.length rL, AV.bool true, u (8 : Nat), u (9 : Nat), u (10 : Nat), u (11 : Nat), u (12 : Nat), u (13 : Nat), AV.bool true, AV.bool true, AV.sl (ints L) L.length rL, I (↑L.length : Int), AV.bool false, AV.bool false, u (20 : Nat), u (21 : Nat), u (22 : Nat), u (23 : Nat), u (24 : Nat), u (25 : Nat), u (26 : Nat), u (27 : Nat), u (28 : Nat), u (29 : Nat), u (30 : Nat), u (31 : Nat), u (32 : Nat), u (33 : Nat), u (34 : Nat), u (35 : Nat), u (36 : Nat), u (37 : Nat), u (38 : Nat), u (39 : Nat), u (40 : Nat), u (41 : Nat), u (42 : Nat), u (43 : Nat), u (44 : Nat), u (45 : Nat), u (46 : Nat), u (47 : Nat)] (H.mk [] us [])) (by kernel_rfl) ?_⟩
      refine And.intro (by first | assumption | omega | (simp only [small, tiny, rng, decide_eq_true_eq, decide_eq_false_iff_not, true_or, or_true, true_and, and_true, Int.reduceEq, Int.reduceNeg, eq_self, reduceIte, if_true, if_false] at *; omega) | (simp [small, tiny, rng, decide_eq_true_eq, decide_eq_false_iff_not, true_or, or_true, true_and, and_true, Int.reduceEq, Int.reduceNeg, eq_self, reduceIte, if_true, if_false] at *; done)) ?_
      refine And.intro (by first | assumption | omega | (simp only [small, tiny, rng, decide_eq_true_eq, decide_eq_false_iff_not, true_or, or_true, true_and, and_true, Int.reduceEq, Int.reduceNeg, eq_self, reduceIte, if_true, if_false] at *; omega) | (simp [small, tiny, rng, decide_eq_true_eq, decide_eq_false_iff_not, true_or, or_true, true_and, and_true, Int.reduceEq, Int.reduceNeg, eq_self, reduceIte, if_true, if_false] at *; done)) ?_
      exact .inl ⟨(L, rL, us), ⟨ha, hlen⟩, rfl, rfl, rfl⟩
abbrev o46 (p : Int) (b : BitVec 32) : List Out :=
  [.mk (List Nat) .ret [4] (fun _ => True) (fun _ => [I (plN p b : Nat)]) (fun ts => ⟨[], ts, []⟩) (fun _ => [])]
theorem simp46 : allSimpleM none1 (loopAt Tryd.f46 0) = true := by kernel_rfl
theorem lp46 (p : Int) (C : List Int) (r : Room) (h0 : p5 p) (hC : lsn C r) :
    LoopS (En5 [d42.to, d69.to]) (loopAt Tryd.f46 0) 48 [0, 1, 5] [I p, ls C r, I 0] .nil (o46 p (sOf C)) := by
  have hR : Rests (En5 [d42.to, d69.to]) none1 := rests mixed (.pure _ (.pure _ .nil))
  obtain ⟨n1, n2, n3⟩ := plN_ok p (sOf C)
  refine loop_s hR simp46 none (by intro _ h; cases h) (fun j vs h => ∃ ts, h = ⟨[], ts, []⟩ ∧ vs = [I p, ls C r, I j] ∧ j ≤ plN p (sOf C)) 6 ⟨[], rfl, rfl, Nat.zero_le _⟩ (by intro _ h; cases h) ?_
  rintro j vs h hj ⟨ts, rfl, rfl, hle⟩
  have hj6 : plV p (j : Int) (sOf C) = false → j < 6 ∧ j + 1 ≤ plN p (sOf C) := fun hk => by
    have hne : j ≠ plN p (sOf C) := fun e => by rw [← e, hk] at n1; cases n1
    omega
  have hjn : plV p (j : Int) (sOf C) = true → j = plN p (sOf C) := fun hk => by
    by_cases hlt : j < plN p (sOf C)
    · rw [n3 j hlt] at hk; cases hk
    · omega
  refine ⟨[Ans.loop [(0 : Nat), (1 : Nat), (5 : Nat), (6 : Nat), (7 : Nat)] [Out.mk (List Int × Room × List Nat) (AX.exit (2 : Nat)) [(0 : Nat), (1 : Nat), (5 : Nat), (6 : Nat)] (fun x => plV p (↑j : Int) (sOf C) = decide (x.fst = []) ∧ x.fst.length ≤ (1000 : Nat)) (fun x => [I p, ls C r, I (↑j : Int), ls x.fst x.snd.fst]) (fun x => H.mk [] x.snd.snd []) fun y => [Ans.fork [] []]]], fun u => of_eq (LoopS (Env.mk Tryd.prog (Sof [d42.to, d69.to]) (Pof (P := Tryd.prog) []) H.nil.base (300 : Nat)) (loopAt Tryd.f46 (1 : Nat)) (48 : Nat) [(0 : Nat), (1 : Nat), (5 : Nat), (6 : Nat), (7 : Nat)] [I p, AV.sl (ints C) C.length r, I (↑j : Int), AV.sl (ints C) C.length r, AV.bool true] (H.mk [] ts []) [Out.mk (List Int × Room × List Nat) (AX.exit (2 : Nat)) [(0 : Nat), (1 : Nat), (5 : Nat), (6 : Nat)] (fun x => plV p (↑j : Int) (sOf C) = decide (x.fst = []) ∧ x.fst.length ≤ (1000 : Nat)) (fun x => [I p, ls C r, I (↑j : Int), ls x.fst x.snd.fst]) (fun x => H.mk [] x.snd.snd []) fun y => [Ans.fork [] []]] ∧ (∀ (y : List Int × Room × List Nat), plV p (↑j : Int) (sOf C) = decide (y.fst = []) ∧ y.fst.length ≤ (1000 : Nat) → ∀ (u : Nat → AV), ((↑y.fst.length : Int) = (0 : Int) → (48 : Nat) = (48 : Nat) ∧ hits [Out.mk (List Nat) AX.ret [(4 : Nat)] (fun x => True) (fun x => [I (↑(plN p (sOf C)) : Int)]) (fun ts => H.mk [] ts []) fun x => []] AX.ret [I p, AV.sl (ints C) C.length r, u (2 : Nat), u (3 : Nat), I (↑j : Int), I (↑j : Int), AV.sl (ints y.fst) y.fst.length y.snd.fst, u (7 : Nat), u (8 : Nat), u (9 : Nat), u (10 : Nat), u (11 : Nat), u (12 : Nat), u (13 : Nat), u (14 : Nat), u (15 : Nat), u (16 : Nat), u (17 : Nat), u (18 : Nat), u (19 : Nat), u (20 : Nat), u (21 : Nat), u (22 : Nat), u (23 : Nat), u (24 : Nat), u (25 : Nat), u (26 : Nat), u (27 : Nat), u (28 : Nat), u (29 : Nat), u (30 : Nat), u (31 : Nat), u (32 : Nat), u (33 : Nat), u (34 : Nat), u (35 : Nat), u (36 : Nat), u (37 : Nat), u (38 : Nat), u (39 : Nat), u (40 : Nat), u (41 : Nat), u (42 : Nat), u (43 : Nat), AV.sl (ints y.fst) y.fst.length y.snd.fst, I (↑y.fst.length : Int), AV.bool true, I (↑j : Int)] (H.mk [] y.snd.snd [])) ∧ ((↑y.fst.length : Int) ≠ (0 : Int) → IntKind.i64.wrap ((↑j : Int) + (1 : Int)) = (↑j : Int) + (1 : Int) ∧ (48 : Nat) = (48 : Nat) ∧ j < (6 : Nat) ∧ Keep (∃ ts, H.mk [] y.snd.snd [] = H.mk [] ts [] ∧ [I p, AV.sl (ints C) C.length r, I ((↑j : Int) + (1 : Int))] = [I p, AV.sl (ints C) C.length r, I (↑(j + (1 : Nat)) : Int)] ∧ j + (1 : Nat) ≤ plN p (sOf C)))) ∧ True) (by kernel_rfl) ?_⟩
  refine And.intro (by exact lp46m p (j : Int) C r ts h0 hC _ rfl) ?_
  refine And.intro ?_ ?_
  · skip
    intro y
    intro w1
    intro u
    refine And.intro ?_ ?_
    · skip
      intro w3
      refine And.intro (by first | rfl | assumption | (have hk : plV p (j : Int) (sOf C) = false := (by rw [w1.1, decide_eq_false_iff_not]; intro e; apply w3; rw [e]; rfl); have := hj6 hk; omega)) ?_
      (have hk : plV p (j : Int) (sOf C) = true := (by rw [w1.1, decide_eq_true_eq]; exact List.length_eq_zero_iff.1 (by omega)); exact .inl ⟨_, trivial, rfl, by rw [← hjn hk]; rfl, rfl⟩)
    · skip
      intro w3
      refine And.intro (by exact wr _ (by omega) (by omega)) ?_
      refine And.intro (by first | rfl | assumption | (have hk : plV p (j : Int) (sOf C) = false := (by rw [w1.1, decide_eq_false_iff_not]; intro e; apply w3; rw [e]; rfl); have := hj6 hk; omega)) ?_
      refine And.intro (by first | rfl | assumption | (have hk : plV p (j : Int) (sOf C) = false := (by rw [w1.1, decide_eq_false_iff_not]; intro e; apply w3; rw [e]; rfl); have := hj6 hk; omega)) ?_
      (have hk : plV p (j : Int) (sOf C) = false := (by rw [w1.1, decide_eq_false_iff_not]; intro e; apply w3; rw [e]; rfl); exact ⟨_, rfl, rfl, (hj6 hk).2⟩)
  · skip
    trivial
theorem leave_int (n : Int) (ts : List Nat) : leave ⟨0, 0, 0⟩ (I n) ⟨[], ts, []⟩ = (I n, .nil) := by simp [leave, AV.bnd, frz, retok, H.nil]
theorem ok46 : FokM Tryd.prog none1 46 Tryd.f46 := ⟨mixed, by kernel_rfl, by kernel_rfl, by kernel_rfl, by kernel_rfl⟩
theorem r46 (p : Int) (l : List Int) (r : Room) (hp : p5 p ∧ lsn l r) : Body ⟨Tryd.prog, Sof (P := Tryd.prog) [d42.to, d69.to], Pof (P := Tryd.prog) [], H.nil.base, 300⟩ none1 Tryd.f46 [I p, ls l r] .nil (I (plN p (sOf l) : Nat), .nil) := by
  refine body_s ([Ans.loop [(0 : Nat), (1 : Nat), (5 : Nat)] [Out.mk (List Nat) AX.ret [(4 : Nat)] (fun x => True) (fun x => [I (↑(plN p (sOf l)) : Int)]) (fun ts => H.mk [] ts []) fun y => []]]) (LoopS (Env.mk Tryd.prog (Sof [d42.to, d69.to]) (Pof (P := Tryd.prog) []) H.nil.base (300 : Nat)) (loopAt Tryd.f46 (0 : Nat)) (48 : Nat) [(0 : Nat), (1 : Nat), (5 : Nat)] [I p, AV.sl (ints l) l.length r, I (0 : Int)] (H.mk [] [] []) [Out.mk (List Nat) AX.ret [(4 : Nat)] (fun x => True) (fun x => [I (↑(plN p (sOf l)) : Int)]) (fun ts => H.mk [] ts []) fun y => []] ∧ (∀ (y : List Nat), True → ∀ (u : Nat → AV), (I (↑(plN p (sOf l)) : Int), H.mk [] [] []) = (I (↑(plN p (sOf l)) : Int), H.mk [] [] [])) ∧ True) (by kernel_rfl) ?_
  refine And.intro (by exact lp46 p l r hp.1 hp.2) ?_
  refine And.intro ?_ ?_
  · skip
    intro y
    intro w1
    intro u
    first | with_reducible rfl | (refine bleaf_t ?_; first | omega | (simp only [small, tiny, rng, decide_eq_true_eq, decide_eq_false_iff_not, true_or, or_true, true_and, and_true, Int.reduceEq, Int.reduceNeg, eq_self, reduceIte, if_true, if_false] at *; omega)) | (refine bleaf_f ?_; first | omega | (simp only [small, tiny, rng, decide_eq_true_eq, decide_eq_false_iff_not, true_or, or_true, true_and, and_true, Int.reduceEq, Int.reduceNeg, eq_self, reduceIte, if_true, if_false] at *; omega)) | (refine ileaf ?_; first | omega | (simp only [small, tiny, rng, decide_eq_true_eq, decide_eq_false_iff_not, true_or, or_true, true_and, and_true, Int.reduceEq, Int.reduceNeg, eq_self, reduceIte, if_true, if_false] at *; omega)) | (exfalso; omega) | (simp only [Prod.mk.injEq, AV.agg.injEq, AV.tup.injEq, List.cons.injEq, AV.int.injEq, AV.bool.injEq, and_true, true_and]; (repeat' apply And.intro) <;> first | with_reducible rfl | (simp []; done) | (simp []; omega) | omega | (simp only [small, tiny, rng, decide_eq_true_eq, decide_eq_false_iff_not, true_or, or_true, true_and, and_true, Int.reduceEq, Int.reduceNeg, eq_self, reduceIte, if_true, if_false] at *; omega) | (simp [small, tiny, rng, decide_eq_true_eq, decide_eq_false_iff_not, true_or, or_true, true_and, and_true, Int.reduceEq, Int.reduceNeg, eq_self, reduceIte, if_true, if_false, *]; done) | (simp [small, tiny, rng, decide_eq_true_eq, decide_eq_false_iff_not, true_or, or_true, true_and, and_true, Int.reduceEq, Int.reduceNeg, eq_self, reduceIte, if_true, if_false, *]; omega)) | (exfalso; simp only [small, tiny, rng, decide_eq_true_eq, decide_eq_false_iff_not, true_or, or_true, true_and, and_true, Int.reduceEq, Int.reduceNeg, eq_self, reduceIte, if_true, if_false] at *; omega) | (simp [small, tiny, rng, decide_eq_true_eq, decide_eq_false_iff_not, true_or, or_true, true_and, and_true, Int.reduceEq, Int.reduceNeg, eq_self, reduceIte, if_true, if_false] at *; done) | (simp [small, tiny, rng, decide_eq_true_eq, decide_eq_false_iff_not, true_or, or_true, true_and, and_true, Int.reduceEq, Int.reduceNeg, eq_self, reduceIte, if_true, if_false] at *; omega)
  · skip
    trivial
noncomputable def c46 : PCtr Tryd.prog := sctr ok46 (X := Int × List Int × Room) (fun x => [I x.1, ls x.2.1 x.2.2]) (fun x => p5 x.1 ∧ lsn x.2.1 x.2.2) (fun x => I (plN x.1 (sOf x.2.1) : Nat)) (by intro x y e _ _; simp at e; simp [e]) (fun x => by simp [AV.bnds, AV.bnd, AV.wk, rm_wk_bnd]) (fun x => by first | rfl | (simp [AV.bnd, rm_wk_bnd]; done)  | (simp [AV.bnd, AV.bnds, rm_wk_bnd]; done) | simp [AV.bnd, AV.bnds, Room.bnd, rm_wk_bnd]) (fun x hx => ⟨_, _, _, .pure d42 (.pure d69 (.nil)), r46 (x.1) (x.2.1) (x.2.2).wk (by first | exact hx | (simp only [rok_wk]; exact hx) | (simp only [rok_wk, lst_wk]; exact hx) | (simp only [rok_wk, lst_wk, lsn_wk]; exact hx))⟩)
end Go.Proofs.Lrn
