/- Layer 4: the law of fools: its loops. -/
import Derived.Test.YtdnidpojcocklaaDoorLoC
import Derived.Test.YtdnidpojcocklaaDoorLnW
import Derived.Test.YtdnidpojcocklaaDoorLnBe
import Derived.Test.YtdnidpojcocklaaDoorLoM
import Derived.Test.YtdnidpojcocklaaDoorVm8
import Derived.KernelRfl
set_option linter.unusedSimpArgs false
set_option linter.unusedVariables false
set_option linter.unnecessarySimpa false
set_option maxHeartbeats 4000000
set_option maxRecDepth 100000
namespace Go.Proofs.Lrn
open Go Go.VM
noncomputable def b24g : PCtr Tryd.prog := up c24g
noncomputable def b24b : PCtr Tryd.prog := up c24b
noncomputable def b25 : PCtr Tryd.prog := up c25
noncomputable def b31g : PCtr Tryd.prog := up c31g
abbrev rE (es : List Pr) : Room := if es = [] then .nil else .no
abbrev pE (es : List Pr) : AV := .sl (pairsA es) es.length (rmz 2 es)
/-- the room of a list that append made, its token being the k-th -/
def rK (k : Nat) : List Pr → Room
  | [] => .nil
  | _ :: _ => .tok k 2
abbrev pK (k : Nat) (es : List Pr) : AV := .sl (pairsA es) es.length (rK k es)
noncomputable def b18v : PCtr Tryd.prog where
  f := 18
  X := List Pr × Nat
  args x := [pK x.2 x.1]
  pre x := x.1.length ≤ 20
  v x := ps x.1 (rE x.1)
  det := by
    intro x y e _ _
    have h := (List.cons.inj e).1
    simp only [AV.sl.injEq] at h
    rw [pairsA_inj h.1]
  ok := by
    rintro ⟨es, k⟩ h
    cases es with
    | nil => exact b18.ok ([], .n) ⟨by decide, fun _ => rfl⟩
    | cons x es =>
      have h : (x :: es).length ≤ 20 := h
      have k := b18.ok (x :: es, .l) ⟨by simp only [lim]; omega, fun q => by cases q⟩
      refine ⟨k.1, fun H => CallOk.wk ?_⟩
      have e : cutp (x :: es) = x :: es := cutp_same h
      have k2 := k.2 H
      have : CallOk Tryd.prog 18 [ps (x :: es) .no] H (ps (cutp (x :: es)) .no) H := k2
      rw [e] at this
      exact this
theorem app_prT {P : Program} {t : TypeId} (hT : Rec.appT P t 2 = true) {l : List Pr} {x y : Int} {ts : List Nat} (hn : l.length ≤ 1000000) :
    aAppend P t t (pK ts.length l) (.sl [I x, I y] 1 .full) ⟨[], ts ++ tkz l, []⟩ = some (pK ts.length (l ++ [(x, y)]), ⟨[], ts ++ tkz (l ++ [(x, y)]), []⟩) := by
  unfold Rec.appT at hT
  cases he : elemT P t with
  | none => rw [he] at hT; cases hT
  | some e =>
    rw [he] at hT
    simp only at hT
    cases hi : P.info? e with
    | none => rw [hi] at hT; cases hT
    | some i =>
      cases hz : zeroCs P e with
      | none => rw [hi, hz] at hT; cases hT
      | some zs =>
        rw [hi, hz] at hT
        simp only [Bool.and_eq_true, beq_iff_eq, decide_eq_true_eq, Bool.not_eq_true'] at hT
        obtain ⟨⟨⟨h1, h2⟩, h3⟩, h4⟩ := hT
        have hb : (l.length + 1) * i.bytes ≤ 2 ^ 47 := Nat.le_trans (Nat.mul_le_mul (show l.length + 1 ≤ 1000001 by omega) h2) (by decide)
        have hm : l.length + 1 ≤ maxLen := Nat.le_trans (show l.length + 1 ≤ 1000001 by omega) (by decide)
        have hc : (pairsA l).length = l.length * 2 := by simp
        have ho : ∀ x : Int, (I x).one = true := fun _ => rfl
        have hap : pairsA (l ++ [(x, y)]) = pairsA l ++ [I x, I y] := by rw [pairsA_append]; rfl
        rw [pK, pK, hap]
        cases l with
        | nil => simp [aAppend, he, hi, hz, h1, h3, h4, slCells, rK, tkz, ho]; exact ⟨by simpa using hb, by decide⟩
        | cons a l =>
          simp [aAppend, he, hi, hz, h1, h3, slCells, rK, tkz, ho]
          simp at hc hb hm
          exact ⟨hc, hb, hm⟩
noncomputable abbrev cs11 : List (Ctr Tryd.prog) := [b17.to, b25.to, b24g.to, b19.to, b21.to, c16g.to, b18v.to, b31g.to]
theorem ct11 : Ctrs Tryd.prog none1 cs11 := .pure _ (.pure _ (.pure _ (.pure _ (.pure _ (.pure _ (.pure _ (.pure _ .nil)))))))
def sbit (k : Int) (j : Nat) : Int := IntKind.i64.wrap ((BitVec.ofInt IntKind.i64.bits (k.fdiv (2 ^ min ((j : Int)).toNat IntKind.i64.bits)) &&& BitVec.ofInt IntKind.i64.bits (1 : Int)).toNat : Int)
theorem sbit_01 (k : Int) (j : Nat) : sbit k j = 0 ∨ sbit k j = 1 := by
  unfold sbit
  generalize BitVec.ofInt IntKind.i64.bits (k.fdiv (2 ^ min ((j : Int)).toNat IntKind.i64.bits)) = w
  have e : (w &&& BitVec.ofInt IntKind.i64.bits (1 : Int)).toNat = w.toNat % 2 := by
    rw [BitVec.toNat_and]
    have : (BitVec.ofInt IntKind.i64.bits (1 : Int)).toNat = 1 := rfl
    rw [this, Nat.and_one_is_mod]
  rw [e]
  have : w.toNat % 2 < 2 := Nat.mod_lt _ (by decide)
  rw [wr _ (by omega) (by omega)]
  omega
abbrev tA (T : List Tri) (R : Room) : AV := .sl (trisA T) T.length R
abbrev o11a (p sd cn : Int) (c pts T : AV) (S : BitVec 32) (L : List Tri) (n : Nat) : List Out := [.mk Unit .ret [10] (fun _ => False) (fun _ => [.bool false]) (fun _ => .nil) (fun _ => []), .mk (List Pr) (.exit 0) [0, 1, 3, 4, 13, 15] (fun es => ∃ a, PathAt p S L 0 a es ∧ es.length = n) (fun es => [I p, c, pts, I cn, I n, pE es]) (fun es => ⟨[], tkz es, []⟩) (fun _ => [])]
theorem simp11a : allSimpleM none1 (loopAt Tryd.f11 0) = true := by kernel_rfl
theorem lp11a (p sd cn : Int) (c pts : AV) (S : BitVec 32) (T : List Tri) (R : Room) (n : Nat) (hn : n ≤ 5) (hT : T.length ≤ 1000) (hR : T ≠ [] → R ≠ .nil) (h0 : PathAt p S T n 0 []) :
    LoopS (En5 cs11) (loopAt Tryd.f11 0) 206 [0, 1, 2, 3, 4, 11, 13, 15, 16, 67, 68] [I p, c, I sd, pts, I cn, tA T R, I n, pE [], I 0, I n, I 0] ⟨[], tkz ([] : List Pr), []⟩ (o11a p sd cn c pts (tA T R) S T n) := by
  have hRs : Rests (En5 cs11) none1 := rests mixed ct11
  refine loop_s hRs simp11a none (by intro _ h; cases h) (fun i vs H => ∃ (es : List Pr) (a : Int), H = ⟨[], tkz es, []⟩ ∧ vs = [I p, c, I sd, pts, I cn, tA T R, I n, pE es, I a, I n, I i] ∧ PathAt p S T (n - i) a es ∧ es.length = i) n ⟨[], 0, rfl, rfl, h0, rfl⟩ (by intro _ h; cases h) ?_
  rintro i vs H hi ⟨es, a, rfl, rfl, hP, hl⟩
  by_cases hz : (i : Int) < (n : Int)
  · have hz' : i < n := by omega
    have ek : n - i = (n - (i + 1)) + 1 := by omega
    rw [ek] at hP
    obtain ⟨m, ⟨x0, x1, x2⟩, rfl, hm, hx, hpt, hnext⟩ := hP.node
    have hri : R ≠ .nil := hR (fun e => by rw [e] at hm; simp at hm)
    have ev0 : IntKind.i64.wrap ((i : Int) + 1) = ((i + 1 : Nat) : Int) := by rw [wr _ (by omega) (by omega)]; omega
    obtain ⟨V, hV⟩ : ∃ V, V = sbit sd i := ⟨_, rfl⟩
    have hV01 := sbit_01 sd i
    rw [← hV] at hV01
    have ev1 : IntKind.i64.wrap ((BitVec.ofInt IntKind.i64.bits (sd.fdiv (2 ^ min ((i : Int)).toNat IntKind.i64.bits)) &&& BitVec.ofInt IntKind.i64.bits (1 : Int)).toNat : Int) = V := hV.symm
    have hx' : T.getD m tri0 = (x0, x1, x2) := hx
    have ld0 : aLoad Tryd.prog 3 (trisA (T.drop m)) = some (I x0) := by
      have := triR.ldf (P := Tryd.prog) (t := 3) (by kernel_rfl) (by kernel_rfl) (l := T) (i := m) (j := 0) hm (v := I x0) (by show (triR.e (T.getD m tri0))[0]? = _; rw [hx']; rfl)
      exact this
    have ld1 : aLoad Tryd.prog 3 (List.drop 1 (trisA (T.drop m))) = some (I x1) := triR.ldf (P := Tryd.prog) (t := 3) (by kernel_rfl) (by kernel_rfl) (l := T) (i := m) (j := 1) hm (v := I x1) (by show (triR.e (T.getD m tri0))[1]? = _; rw [hx']; rfl)
    have ld2 : aLoad Tryd.prog 3 (List.drop 2 (trisA (T.drop m))) = some (I x2) := triR.ldf (P := Tryd.prog) (t := 3) (by kernel_rfl) (by kernel_rfl) (l := T) (i := m) (j := 2) hm (v := I x2) (by show (triR.e (T.getD m tri0))[2]? = _; rw [hx']; rfl)
    have hixt : aIndexAddr Tryd.prog 38 (tA T R) (I m) = some (.cptr (trisA (T.drop m))) := ix_tris (by kernel_rfl) hm hri
    have hm' : (m : Int) < (T.length : Int) := by omega
    have hp0 : 0 ≤ x0 := hpt.1
    have hp1 : x0 < p := hpt.2
    obtain ⟨q0, q1⟩ : (0 : Int) ≤ (m : Int) ∧ True := ⟨by omega, trivial⟩
    have hap := fun y => app_pr (P := Tryd.prog) (t := 23) (by kernel_rfl) (l := es) (x := x0) (y := y) (bs := []) (by omega)
    have hl2 : ∀ y : Int, (es ++ [(x0, y)]).length = i + 1 := fun y => by simp [hl]
    rcases hV01 with hV0 | hV0
    · rw [hV0] at ev1
      have ev2 : IntKind.i64.wrap (1 - (0 : Int)) = 1 := by decide
      have hA := hap 1
      have hk := hnext (by omega) 1 (.inr rfl)
      rw [if_pos rfl] at hk
      obtain ⟨E1, hE1⟩ : ∃ E1, E1 = es ++ [(x0, 1)] := ⟨_, rfl⟩
      have hl3 := hl2 1
      rw [← hE1] at hA hk hl3
      refine ⟨[Ans.o (Orc.b true), Ans.o Orc.dflt, Ans.o (Orc.b false), Ans.o (Orc.val 82 (AV.cptr (trisA (List.drop m T))) H.nil), Ans.o (Orc.val 84 (I x0) H.nil), Ans.o (Orc.b false), Ans.o (Orc.val 90 (AV.cptr (trisA (List.drop m T))) H.nil), Ans.o (Orc.val 92 (I x0) H.nil), Ans.o (Orc.b false), Ans.o (Orc.val 99 (I 0) H.nil), Ans.o (Orc.val 100 (I 1) H.nil), Ans.o (Orc.val 104 (AV.cptr (trisA (List.drop m T))) H.nil), Ans.o (Orc.val 106 (I x0) H.nil), Ans.o (Orc.val 110 (AV.sl (pairsA E1) E1.length (rmz (2 : Nat) E1)) (H.mk [] (tkz E1) [])), Ans.o Orc.dflt, Ans.o (Orc.val 115 (AV.cptr (trisA (List.drop m T))) H.nil), Ans.o (Orc.val 117 (I x2) H.nil), Ans.o (Orc.val 123 (I (↑(i + (1 : Nat)) : Int)) H.nil)], fun u => of_eq ((↑i : Int) < (↑n : Int) ∧ (↑m : Int) < (↑T.length : Int) ∧ aIndexAddr Tryd.prog (38 : Nat) (AV.sl (trisA T) T.length R) (I (↑m : Int)) = some (AV.cptr (trisA (List.drop m T))) ∧ aLoad Tryd.prog (3 : Nat) (List.drop #[Field.mk "Point" (3 : Nat) (0 : Nat) false "" "" (0 : Nat), Field.mk "Zero" (3 : Nat) (1 : Nat) false "" "" (8 : Nat), Field.mk "One" (3 : Nat) (2 : Nat) false "" "" (16 : Nat)][(0 : Nat)].offset (trisA (List.drop m T))) = some (I x0) ∧ (0 : Int) ≤ x0 ∧ aIndexAddr Tryd.prog (38 : Nat) (AV.sl (trisA T) T.length R) (I (↑m : Int)) = some (AV.cptr (trisA (List.drop m T))) ∧ aLoad Tryd.prog (3 : Nat) (List.drop #[Field.mk "Point" (3 : Nat) (0 : Nat) false "" "" (0 : Nat), Field.mk "Zero" (3 : Nat) (1 : Nat) false "" "" (8 : Nat), Field.mk "One" (3 : Nat) (2 : Nat) false "" "" (16 : Nat)][(0 : Nat)].offset (trisA (List.drop m T))) = some (I x0) ∧ x0 < p ∧ aBin Tryd.prog BinOp.and (3 : Nat) (I (sd.fdiv ((2 : Int) ^ min (↑i : Int).toNat IntKind.i64.bits))) (I 1) = some (I 0) ∧ aBin Tryd.prog BinOp.sub (3 : Nat) (I 1) (I 0) = some (I 1) ∧ aIndexAddr Tryd.prog (38 : Nat) (AV.sl (trisA T) T.length R) (I (↑m : Int)) = some (AV.cptr (trisA (List.drop m T))) ∧ aLoad Tryd.prog (3 : Nat) (List.drop #[Field.mk "Point" (3 : Nat) (0 : Nat) false "" "" (0 : Nat), Field.mk "Zero" (3 : Nat) (1 : Nat) false "" "" (8 : Nat), Field.mk "One" (3 : Nat) (2 : Nat) false "" "" (16 : Nat)][(0 : Nat)].offset (trisA (List.drop m T))) = some (I x0) ∧ aAppend Tryd.prog (23 : Nat) (23 : Nat) (AV.sl (pairsA es) es.length (rmz (2 : Nat) es)) (AV.sl [I x0, I 1] (1 : Nat) Room.full) (H.mk [] (tkz es) []) = some (AV.sl (pairsA E1) E1.length (rmz (2 : Nat) E1), H.mk [] (tkz E1) []) ∧ aIndexAddr Tryd.prog (38 : Nat) (AV.sl (trisA T) T.length R) (I (↑m : Int)) = some (AV.cptr (trisA (List.drop m T))) ∧ aLoad Tryd.prog (3 : Nat) (List.drop #[Field.mk "Point" (3 : Nat) (0 : Nat) false "" "" (0 : Nat), Field.mk "Zero" (3 : Nat) (1 : Nat) false "" "" (8 : Nat), Field.mk "One" (3 : Nat) (2 : Nat) false "" "" (16 : Nat)][(2 : Nat)].offset (trisA (List.drop m T))) = some (I x2) ∧ aBin Tryd.prog BinOp.add (3 : Nat) (I (↑i : Int)) (I 1) = some (I (↑(i + (1 : Nat)) : Int)) ∧ (206 : Nat) = (206 : Nat) ∧ i < n ∧ Keep (∃ es a, H.mk [] (tkz E1) [] = H.mk [] (tkz es) [] ∧ [I p, c, I sd, pts, I cn, AV.sl (trisA T) T.length R, I (↑n : Int), AV.sl (pairsA E1) E1.length (rmz (2 : Nat) E1), I x2, I (↑n : Int), I (↑(i + (1 : Nat)) : Int)] = [I p, c, I sd, pts, I cn, AV.sl (trisA T) T.length R, I (↑n : Int), AV.sl (pairsA es) es.length (rmz (2 : Nat) es), I a, I (↑n : Int), I (↑(i + (1 : Nat)) : Int)] ∧ PathAt p S T (n - (i + (1 : Nat))) a es ∧ es.length = i + (1 : Nat))) (by kernel_rfl) ?_⟩
      refine ⟨by first | with_reducible assumption | omega | assumption, ?_⟩
      refine ⟨by first | with_reducible assumption | omega | assumption, ?_⟩
      refine ⟨by first | exact ix_tris (by kernel_rfl) (by omega) (by assumption) | exact ix_tris (by kernel_rfl) (by omega) (rok_idx (by assumption) (by omega)), ?_⟩
      refine ⟨by first | exact ld0 | exact ld1 | exact ld2, ?_⟩
      refine ⟨by first | with_reducible assumption | omega | assumption, ?_⟩
      refine ⟨by first | exact ix_tris (by kernel_rfl) (by omega) (by assumption) | exact ix_tris (by kernel_rfl) (by omega) (rok_idx (by assumption) (by omega)), ?_⟩
      refine ⟨by first | exact ld0 | exact ld1 | exact ld2, ?_⟩
      refine ⟨by first | with_reducible assumption | omega | assumption, ?_⟩
      refine ⟨told_and (by with_reducible assumption), ?_⟩
      refine ⟨told_sub (by with_reducible assumption), ?_⟩
      refine ⟨by first | exact ix_tris (by kernel_rfl) (by omega) (by assumption) | exact ix_tris (by kernel_rfl) (by omega) (rok_idx (by assumption) (by omega)), ?_⟩
      refine ⟨by first | exact ld0 | exact ld1 | exact ld2, ?_⟩
      refine ⟨hA, ?_⟩
      refine ⟨by first | exact ix_tris (by kernel_rfl) (by omega) (by assumption) | exact ix_tris (by kernel_rfl) (by omega) (rok_idx (by assumption) (by omega)), ?_⟩
      refine ⟨by first | exact ld0 | exact ld1 | exact ld2, ?_⟩
      refine ⟨told_add (by with_reducible assumption), ?_⟩
      refine ⟨by first | with_reducible assumption | omega | assumption, ?_⟩
      refine ⟨by first | with_reducible assumption | omega | assumption, ?_⟩
      exact ⟨E1, x2, rfl, rfl, hk, hl3⟩
    · rw [hV0] at ev1
      have ev2 : IntKind.i64.wrap (1 - (1 : Int)) = 0 := by decide
      have hA := hap 0
      have hk := hnext (by omega) 0 (.inl rfl)
      rw [if_neg (by omega)] at hk
      obtain ⟨E1, hE1⟩ : ∃ E1, E1 = es ++ [(x0, 0)] := ⟨_, rfl⟩
      have hl3 := hl2 0
      rw [← hE1] at hA hk hl3
      refine ⟨[Ans.o (Orc.b true), Ans.o Orc.dflt, Ans.o (Orc.b false), Ans.o (Orc.val 82 (AV.cptr (trisA (List.drop m T))) H.nil), Ans.o (Orc.val 84 (I x0) H.nil), Ans.o (Orc.b false), Ans.o (Orc.val 90 (AV.cptr (trisA (List.drop m T))) H.nil), Ans.o (Orc.val 92 (I x0) H.nil), Ans.o (Orc.b false), Ans.o (Orc.val 99 (I 1) H.nil), Ans.o (Orc.val 100 (I 0) H.nil), Ans.o (Orc.val 104 (AV.cptr (trisA (List.drop m T))) H.nil), Ans.o (Orc.val 106 (I x0) H.nil), Ans.o (Orc.val 110 (AV.sl (pairsA E1) E1.length (rmz (2 : Nat) E1)) (H.mk [] (tkz E1) [])), Ans.o Orc.dflt, Ans.o (Orc.val 120 (AV.cptr (trisA (List.drop m T))) H.nil), Ans.o (Orc.val 122 (I x1) H.nil), Ans.o (Orc.val 123 (I (↑(i + (1 : Nat)) : Int)) H.nil)], fun u => of_eq ((↑i : Int) < (↑n : Int) ∧ (↑m : Int) < (↑T.length : Int) ∧ aIndexAddr Tryd.prog (38 : Nat) (AV.sl (trisA T) T.length R) (I (↑m : Int)) = some (AV.cptr (trisA (List.drop m T))) ∧ aLoad Tryd.prog (3 : Nat) (List.drop #[Field.mk "Point" (3 : Nat) (0 : Nat) false "" "" (0 : Nat), Field.mk "Zero" (3 : Nat) (1 : Nat) false "" "" (8 : Nat), Field.mk "One" (3 : Nat) (2 : Nat) false "" "" (16 : Nat)][(0 : Nat)].offset (trisA (List.drop m T))) = some (I x0) ∧ (0 : Int) ≤ x0 ∧ aIndexAddr Tryd.prog (38 : Nat) (AV.sl (trisA T) T.length R) (I (↑m : Int)) = some (AV.cptr (trisA (List.drop m T))) ∧ aLoad Tryd.prog (3 : Nat) (List.drop #[Field.mk "Point" (3 : Nat) (0 : Nat) false "" "" (0 : Nat), Field.mk "Zero" (3 : Nat) (1 : Nat) false "" "" (8 : Nat), Field.mk "One" (3 : Nat) (2 : Nat) false "" "" (16 : Nat)][(0 : Nat)].offset (trisA (List.drop m T))) = some (I x0) ∧ x0 < p ∧ aBin Tryd.prog BinOp.and (3 : Nat) (I (sd.fdiv ((2 : Int) ^ min (↑i : Int).toNat IntKind.i64.bits))) (I 1) = some (I 1) ∧ aBin Tryd.prog BinOp.sub (3 : Nat) (I 1) (I 1) = some (I 0) ∧ aIndexAddr Tryd.prog (38 : Nat) (AV.sl (trisA T) T.length R) (I (↑m : Int)) = some (AV.cptr (trisA (List.drop m T))) ∧ aLoad Tryd.prog (3 : Nat) (List.drop #[Field.mk "Point" (3 : Nat) (0 : Nat) false "" "" (0 : Nat), Field.mk "Zero" (3 : Nat) (1 : Nat) false "" "" (8 : Nat), Field.mk "One" (3 : Nat) (2 : Nat) false "" "" (16 : Nat)][(0 : Nat)].offset (trisA (List.drop m T))) = some (I x0) ∧ aAppend Tryd.prog (23 : Nat) (23 : Nat) (AV.sl (pairsA es) es.length (rmz (2 : Nat) es)) (AV.sl [I x0, I 0] (1 : Nat) Room.full) (H.mk [] (tkz es) []) = some (AV.sl (pairsA E1) E1.length (rmz (2 : Nat) E1), H.mk [] (tkz E1) []) ∧ aIndexAddr Tryd.prog (38 : Nat) (AV.sl (trisA T) T.length R) (I (↑m : Int)) = some (AV.cptr (trisA (List.drop m T))) ∧ aLoad Tryd.prog (3 : Nat) (List.drop #[Field.mk "Point" (3 : Nat) (0 : Nat) false "" "" (0 : Nat), Field.mk "Zero" (3 : Nat) (1 : Nat) false "" "" (8 : Nat), Field.mk "One" (3 : Nat) (2 : Nat) false "" "" (16 : Nat)][(1 : Nat)].offset (trisA (List.drop m T))) = some (I x1) ∧ aBin Tryd.prog BinOp.add (3 : Nat) (I (↑i : Int)) (I 1) = some (I (↑(i + (1 : Nat)) : Int)) ∧ (206 : Nat) = (206 : Nat) ∧ i < n ∧ Keep (∃ es a, H.mk [] (tkz E1) [] = H.mk [] (tkz es) [] ∧ [I p, c, I sd, pts, I cn, AV.sl (trisA T) T.length R, I (↑n : Int), AV.sl (pairsA E1) E1.length (rmz (2 : Nat) E1), I x1, I (↑n : Int), I (↑(i + (1 : Nat)) : Int)] = [I p, c, I sd, pts, I cn, AV.sl (trisA T) T.length R, I (↑n : Int), AV.sl (pairsA es) es.length (rmz (2 : Nat) es), I a, I (↑n : Int), I (↑(i + (1 : Nat)) : Int)] ∧ PathAt p S T (n - (i + (1 : Nat))) a es ∧ es.length = i + (1 : Nat))) (by kernel_rfl) ?_⟩
      refine ⟨by first | with_reducible assumption | omega | assumption, ?_⟩
      refine ⟨by first | with_reducible assumption | omega | assumption, ?_⟩
      refine ⟨by first | exact ix_tris (by kernel_rfl) (by omega) (by assumption) | exact ix_tris (by kernel_rfl) (by omega) (rok_idx (by assumption) (by omega)), ?_⟩
      refine ⟨by first | exact ld0 | exact ld1 | exact ld2, ?_⟩
      refine ⟨by first | with_reducible assumption | omega | assumption, ?_⟩
      refine ⟨by first | exact ix_tris (by kernel_rfl) (by omega) (by assumption) | exact ix_tris (by kernel_rfl) (by omega) (rok_idx (by assumption) (by omega)), ?_⟩
      refine ⟨by first | exact ld0 | exact ld1 | exact ld2, ?_⟩
      refine ⟨by first | with_reducible assumption | omega | assumption, ?_⟩
      refine ⟨told_and (by with_reducible assumption), ?_⟩
      refine ⟨told_sub (by with_reducible assumption), ?_⟩
      refine ⟨by first | exact ix_tris (by kernel_rfl) (by omega) (by assumption) | exact ix_tris (by kernel_rfl) (by omega) (rok_idx (by assumption) (by omega)), ?_⟩
      refine ⟨by first | exact ld0 | exact ld1 | exact ld2, ?_⟩
      refine ⟨hA, ?_⟩
      refine ⟨by first | exact ix_tris (by kernel_rfl) (by omega) (by assumption) | exact ix_tris (by kernel_rfl) (by omega) (rok_idx (by assumption) (by omega)), ?_⟩
      refine ⟨by first | exact ld0 | exact ld1 | exact ld2, ?_⟩
      refine ⟨told_add (by with_reducible assumption), ?_⟩
      refine ⟨by first | with_reducible assumption | omega | assumption, ?_⟩
      refine ⟨by first | with_reducible assumption | omega | assumption, ?_⟩
      exact ⟨E1, x1, rfl, rfl, hk, hl3⟩
  · have hz : (n : Int) ≤ (i : Int) := by omega
    have e : i = n := by omega
    subst e
    rw [Nat.sub_self] at hP
    have hz2 : (i : Int) ≤ (i : Int) := by omega
    refine ⟨[Ans.o (Orc.b false)], fun u => of_eq ((↑i : Int) ≤ (↑i : Int) ∧ (206 : Nat) = (206 : Nat) ∧ hits [Out.mk Unit AX.ret [(10 : Nat)] (fun x => False) (fun x => [AV.bool false]) (fun x => H.nil) fun x => [], Out.mk (List Pr) (AX.exit (0 : Nat)) [(0 : Nat), (1 : Nat), (3 : Nat), (4 : Nat), (13 : Nat), (15 : Nat)] (fun es => ∃ a, PathAt p S T (0 : Nat) a es ∧ es.length = i) (fun es => [I p, c, pts, I cn, I (↑i : Int), pE es]) (fun es => H.mk [] (tkz es) []) fun x => []] (AX.exit (0 : Nat)) [I p, c, I sd, pts, I cn, u (5 : Nat), u (6 : Nat), u (7 : Nat), u (8 : Nat), u (9 : Nat), u (10 : Nat), AV.sl (trisA T) T.length R, u (12 : Nat), I (↑i : Int), u (14 : Nat), AV.sl (pairsA es) es.length (rmz (2 : Nat) es), I a, u (17 : Nat), u (18 : Nat), u (19 : Nat), u (20 : Nat), u (21 : Nat), u (22 : Nat), u (23 : Nat), u (24 : Nat), u (25 : Nat), u (26 : Nat), u (27 : Nat), u (28 : Nat), u (29 : Nat), u (30 : Nat), u (31 : Nat), u (32 : Nat), u (33 : Nat), u (34 : Nat), u (35 : Nat), u (36 : Nat), u (37 : Nat), u (38 : Nat), u (39 : Nat), u (40 : Nat), u (41 : Nat), u (42 : Nat), u (43 : Nat), u (44 : Nat), u (45 : Nat), u (46 : Nat), u (47 : Nat), u (48 : Nat), u (49 : Nat), u (50 : Nat), u (51 : Nat), u (52 : Nat), u (53 : Nat), u (54 : Nat), u (55 : Nat), u (56 : Nat), u (57 : Nat), u (58 : Nat), u (59 : Nat), u (60 : Nat), u (61 : Nat), u (62 : Nat), u (63 : Nat), u (64 : Nat), u (65 : Nat), u (66 : Nat), I (↑i : Int), I (↑i : Int), AV.bool false, u (70 : Nat), u (71 : Nat), u (72 : Nat), u (73 : Nat), u (74 : Nat), u (75 : Nat), u (76 : Nat), u (77 : Nat), u (78 : Nat), u (79 : Nat), u (80 : Nat), u (81 : Nat), u (82 : Nat), u (83 : Nat), u (84 : Nat), u (85 : Nat), u (86 : Nat), u (87 : Nat), u (88 : Nat), u (89 : Nat), u (90 : Nat), u (91 : Nat), u (92 : Nat), u (93 : Nat), u (94 : Nat), u (95 : Nat), u (96 : Nat), u (97 : Nat), u (98 : Nat), u (99 : Nat), u (100 : Nat), u (101 : Nat), u (102 : Nat), u (103 : Nat), u (104 : Nat), u (105 : Nat), u (106 : Nat), u (107 : Nat), u (108 : Nat), u (109 : Nat), u (110 : Nat), u (111 : Nat), u (112 : Nat), u (113 : Nat), u (114 : Nat), u (115 : Nat), u (116 : Nat), u (117 : Nat), u (118 : Nat), u (119 : Nat), u (120 : Nat), u (121 : Nat), u (122 : Nat), u (123 : Nat), u (124 : Nat), u (125 : Nat), u (126 : Nat), u (127 : Nat), u (128 : Nat), u (129 : Nat), u (130 : Nat), u (131 : Nat), u (132 : Nat), u (133 : Nat), u (134 : Nat), u (135 : Nat), u (136 : Nat), u (137 : Nat), u (138 : Nat), u (139 : Nat), u (140 : Nat), u (141 : Nat), u (142 : Nat), u (143 : Nat), u (144 : Nat), u (145 : Nat), u (146 : Nat), u (147 : Nat), u (148 : Nat), u (149 : Nat), u (150 : Nat), u (151 : Nat), u (152 : Nat), u (153 : Nat), u (154 : Nat), u (155 : Nat), u (156 : Nat), u (157 : Nat), u (158 : Nat), u (159 : Nat), u (160 : Nat), u (161 : Nat), u (162 : Nat), u (163 : Nat), u (164 : Nat), u (165 : Nat), u (166 : Nat), u (167 : Nat), u (168 : Nat), u (169 : Nat), u (170 : Nat), u (171 : Nat), u (172 : Nat), u (173 : Nat), u (174 : Nat), u (175 : Nat), u (176 : Nat), u (177 : Nat), u (178 : Nat), u (179 : Nat), u (180 : Nat), u (181 : Nat), u (182 : Nat), u (183 : Nat), u (184 : Nat), u (185 : Nat), u (186 : Nat), u (187 : Nat), u (188 : Nat), u (189 : Nat), u (190 : Nat), u (191 : Nat), u (192 : Nat), u (193 : Nat), u (194 : Nat), u (195 : Nat), u (196 : Nat), u (197 : Nat), u (198 : Nat), u (199 : Nat), u (200 : Nat), u (201 : Nat), u (202 : Nat), u (203 : Nat), u (204 : Nat), u (205 : Nat)] (H.mk [] (tkz es) [])) (by kernel_rfl) ?_⟩
    refine ⟨by first | with_reducible assumption | omega | assumption, ?_⟩
    refine ⟨by first | with_reducible assumption | omega | assumption, ?_⟩
    exact .inr (.inl ⟨es, ⟨a, hP, hl⟩, rfl, rfl, rfl⟩)
end Go.Proofs.Lrn

