/- Layer 5: codes. -/
import Derived.Test.YtlomlnkafakloaaDoorSuF
import Derived.KernelRfl
set_option linter.unusedSimpArgs false
set_option linter.unusedVariables false
set_option linter.unnecessarySimpa false
set_option maxHeartbeats 4000000
set_option maxRecDepth 100000
namespace Go.Proofs.Sur
open Go Go.VM

/-- is what is left of a slice a code? -/
def icF (w : List W) : W → Int → List Int → Bool
  | _, _, [] => true
  | c, last, x :: t => if x ≤ last then false else if (w.length : Int) ≤ x then false else if c.getLsbD x.toNat = true then false else icF w (c ||| wt_ w x.toNat) x t
theorem icF_drop {w : List W} {c : W} {last : Int} {l : List Int} {j : Nat} (h : j < l.length) : icF w c last (l.drop j) = if at_ l j ≤ last then false else if (w.length : Int) ≤ at_ l j then false else if c.getLsbD (at_ l j).toNat = true then false else icF w (c ||| wt_ w (at_ l j).toNat) (at_ l j) (l.drop (j + 1)) := by
  have e : l.getD j i0 = l[j] := by simp [List.getD_eq_getElem?_getD, List.getElem?_eq_getElem h]
  rw [List.drop_eq_getElem_cons h, at_, e]; rfl
theorem ix_u64s' {P : Program} {t : TypeId} (hu : (elemT P t).bind (sizeT P) = some 1) {l : List W} {n : Nat} {r : Room} {k : IntKind} {i : Int} (h0 : 0 ≤ i) (h : i < n) (hr : r ≠ .nil) :
    aIndexAddr P t (.sl (u64s l) n r) (.int k i) = some (.cptr (u64s (l.drop i.toNat))) := by
  obtain ⟨m, rfl⟩ : ∃ m : Nat, i = m := ⟨i.toNat, by omega⟩
  rw [Int.toNat_natCast]
  exact ix_u64s hu (by omega) hr
theorem w_bit {s : W} {n : Nat} (b : Bool) (h : s.getLsbD n = b) : IntKind.u64.wrap ((BitVec.ofInt IntKind.u64.bits ((s >>> n).toNat : Int) &&& BitVec.ofInt IntKind.u64.bits 1).toNat : Int) = ((b.toNat : Nat) : Int) := by
  have e := w_and (s >>> n) 1#64
  have e2 : (s >>> n &&& 1#64).toNat = b.toNat := by
    rw [BitVec.toNat_and, BitVec.toNat_ushiftRight]
    show s.toNat >>> n &&& 1 = _
    rw [bit_01]
    exact congrArg Bool.toNat h
  rw [e2] at e
  exact e
theorem w_shr' (a : W) {x : Int} (h0 : 0 ≤ x) (h : x ≤ 64) : (a.toNat : Int).fdiv (2 ^ min x.toNat IntKind.u64.bits) = ((a >>> x.toNat).toNat : Int) := by
  have := w_shr a (n := x.toNat) (by omega)
  rwa [Int.toNat_natCast] at this
abbrev o63 (w : List W) (l : List Int) : List Out :=
  [.mk Unit .ret [4] (fun _ => icF w 0#64 (-1) l = false) (fun _ => [.bool false]) (fun _ => .nil) (fun _ => []), .mk Unit (.exit 0) [] (fun _ => icF w 0#64 (-1) l = true) (fun _ => []) (fun _ => .nil) (fun _ => [])]
theorem simp63 : allSimpleM none1 (loopAt Tryd.f63 0) = true := by kernel_rfl
theorem lp63 (w : List W) (r : Room) (l : List Int) (q : Room) (hw : rok w r) (h6 : w.length ≤ 64) (hl : lim l.length) (hq : rok l q) :
    LoopS (En6 []) (loopAt Tryd.f63 0) 39 [0, 5, 6, 9, 10, 11] [ws w r, u64A 0#64, I (-1), ls l q, I l.length, I 0] .nil (o63 w l) := by
  have hR : Rests (En6 []) none1 := rests mixed .nil
  refine loop_s hR simp63 none (by intro _ h; cases h) (fun j vs h => ∃ (c : W) (last : Int), h = .nil ∧ vs = [ws w r, u64A c, I last, ls l q, I l.length, I j] ∧ icF w 0#64 (-1) l = icF w c last (l.drop j) ∧ -1 ≤ last) l.length ⟨0#64, -1, rfl, rfl, rfl, by omega⟩ (by intro _ h; cases h) ?_
  rintro j vs h hj ⟨c, last, rfl, rfl, ha, hlast⟩
  by_cases hz : (j : Int) < l.length
  · have hz' : j < l.length := by omega
    have hr := rok_idx hq hz'
    rw [icF_drop hz'] at ha
    by_cases c1 : at_ l j ≤ last
    · rw [if_pos c1] at ha
      refine ⟨[Ans.o (Orc.b true), Ans.o (Orc.val (13 : Nat) (AV.cptr (ints (List.drop j l))) H.nil), Ans.o (Orc.val (14 : Nat) (I (l.getD j i0)) H.nil), Ans.o (Orc.b true)], fun u => of_eq ((↑j : Int) < (↑l.length : Int) ∧ aIndexAddr Tryd.prog (22 : Nat) (AV.sl (ints l) l.length q) (I (↑j : Int)) = some (AV.cptr (ints (List.drop j l))) ∧ aLoad Tryd.prog (3 : Nat) (ints (List.drop j l)) = some (I (l.getD j i0)) ∧ l.getD j i0 ≤ last ∧ (39 : Nat) = (39 : Nat) ∧ hits [Out.mk Unit AX.ret [(4 : Nat)] (fun x => icF w (BitVec.ofNat (64 : Nat) (0 : Nat)) (-1 : Int) l = false) (fun x => [AV.bool false]) (fun x => H.nil) fun x => [], Out.mk Unit (AX.exit (0 : Nat)) [] (fun x => icF w (BitVec.ofNat (64 : Nat) (0 : Nat)) (-1 : Int) l = true) (fun x => []) (fun x => H.nil) fun x => []] AX.ret [AV.sl (u64s w) w.length r, u (1 : Nat), u (2 : Nat), u (3 : Nat), AV.bool false, AV.int IntKind.u64 (↑(BitVec.toNat c) : Int), I last, u (7 : Nat), I (l.getD j i0), AV.sl (ints l) l.length q, I (↑l.length : Int), I (↑j : Int), AV.bool true, AV.cptr (ints (List.drop j l)), I (l.getD j i0), I (l.getD j i0), I last, AV.bool true, AV.bool true, AV.tup [], AV.tup [], AV.tup [], AV.tup [], AV.bool true, AV.bool true, AV.tup [], AV.tup [], AV.tup [], AV.tup [], AV.tup [], AV.bool true, u (31 : Nat), u (32 : Nat), u (33 : Nat), u (34 : Nat), u (35 : Nat), u (36 : Nat), u (37 : Nat), u (38 : Nat)] (H.mk [] [] [])) (by kernel_rfl) ?_⟩
      refine And.intro (by first | with_reducible assumption | omega | assumption) ?_
      refine And.intro (by first | exact ix_ints (by kernel_rfl) (by omega) (by assumption) | exact ix_ints (by kernel_rfl) (by omega) (rok_idx (by assumption) (by omega))) ?_
      refine And.intro (by first | exact ld_ints (by kernel_rfl) (by kernel_rfl) (by omega) | exact ldm_ints (by kernel_rfl) (by kernel_rfl) (by first | omega | (simp; omega))) ?_
      refine And.intro (by first | with_reducible assumption | omega | assumption) ?_
      refine And.intro (by first | with_reducible assumption | omega | assumption) ?_
      exact .inl ⟨(), ha, rfl, rfl, rfl⟩
    · rw [if_neg c1] at ha
      have c1 : last < at_ l j := by omega
      have c0 : 0 ≤ at_ l j := by omega
      by_cases c2 : (w.length : Int) ≤ at_ l j
      · rw [if_pos c2] at ha
        refine ⟨[Ans.o (Orc.b true), Ans.o (Orc.val (13 : Nat) (AV.cptr (ints (List.drop j l))) H.nil), Ans.o (Orc.val (14 : Nat) (I (l.getD j i0)) H.nil), Ans.o (Orc.b false), Ans.o (Orc.b true)], fun u => of_eq ((↑j : Int) < (↑l.length : Int) ∧ aIndexAddr Tryd.prog (22 : Nat) (AV.sl (ints l) l.length q) (I (↑j : Int)) = some (AV.cptr (ints (List.drop j l))) ∧ aLoad Tryd.prog (3 : Nat) (ints (List.drop j l)) = some (I (l.getD j i0)) ∧ last < l.getD j i0 ∧ (↑w.length : Int) ≤ l.getD j i0 ∧ (39 : Nat) = (39 : Nat) ∧ hits [Out.mk Unit AX.ret [(4 : Nat)] (fun x => icF w (BitVec.ofNat (64 : Nat) (0 : Nat)) (-1 : Int) l = false) (fun x => [AV.bool false]) (fun x => H.nil) fun x => [], Out.mk Unit (AX.exit (0 : Nat)) [] (fun x => icF w (BitVec.ofNat (64 : Nat) (0 : Nat)) (-1 : Int) l = true) (fun x => []) (fun x => H.nil) fun x => []] AX.ret [AV.sl (u64s w) w.length r, u (1 : Nat), u (2 : Nat), u (3 : Nat), AV.bool false, AV.int IntKind.u64 (↑(BitVec.toNat c) : Int), I last, u (7 : Nat), I (l.getD j i0), AV.sl (ints l) l.length q, I (↑l.length : Int), I (↑j : Int), AV.bool true, AV.cptr (ints (List.drop j l)), I (l.getD j i0), I (l.getD j i0), I last, AV.bool false, AV.bool false, I (l.getD j i0), AV.sl (u64s w) w.length r, I (↑w.length : Int), AV.bool true, AV.bool true, AV.bool true, AV.tup [], AV.tup [], AV.tup [], AV.tup [], AV.tup [], AV.bool true, u (31 : Nat), u (32 : Nat), u (33 : Nat), u (34 : Nat), u (35 : Nat), u (36 : Nat), u (37 : Nat), u (38 : Nat)] (H.mk [] [] [])) (by kernel_rfl) ?_⟩
        refine And.intro (by first | with_reducible assumption | omega | assumption) ?_
        refine And.intro (by first | exact ix_ints (by kernel_rfl) (by omega) (by assumption) | exact ix_ints (by kernel_rfl) (by omega) (rok_idx (by assumption) (by omega))) ?_
        refine And.intro (by first | exact ld_ints (by kernel_rfl) (by kernel_rfl) (by omega) | exact ldm_ints (by kernel_rfl) (by kernel_rfl) (by first | omega | (simp; omega))) ?_
        refine And.intro (by first | with_reducible assumption | omega | assumption) ?_
        refine And.intro (by first | with_reducible assumption | omega | assumption) ?_
        refine And.intro (by first | with_reducible assumption | omega | assumption) ?_
        exact .inl ⟨(), ha, rfl, rfl, rfl⟩
      · rw [if_neg c2] at ha
        have c2 : at_ l j < w.length := by omega
        have hrw := rok_idx hw (show (at_ l j).toNat < w.length by omega)
        have hx : (at_ l j).toNat < w.length := by omega
        have ev0 := w_shr' c c0 (show at_ l j ≤ 64 by omega)
        cases c3 : c.getLsbD (at_ l j).toNat
        · rw [c3, if_neg (by simp)] at ha
          have ev1 : _ = (0 : Int) := w_bit false c3
          have ev2 := w_or c (wt_ w (at_ l j).toNat)
          have hk : -1 ≤ at_ l j := by omega
          refine ⟨[Ans.o (Orc.b true), Ans.o (Orc.val (13 : Nat) (AV.cptr (ints (List.drop j l))) H.nil), Ans.o (Orc.val (14 : Nat) (I (l.getD j i0)) H.nil), Ans.o (Orc.b false), Ans.o (Orc.b false), Ans.o (Orc.val (27 : Nat) (AV.int IntKind.u64 (↑(c >>> (at_ l j).toNat).toNat : Int)) (H.mk [] [] [])), Ans.o (Orc.val (28 : Nat) (AV.int IntKind.u64 (0 : Int)) (H.mk [] [] [])), Ans.o Orc.dflt, Ans.o (Orc.val (34 : Nat) (AV.cptr (u64s (List.drop (l.getD j i0).toNat w))) (H.mk [] [] [])), Ans.o (Orc.val (35 : Nat) (AV.int IntKind.u64 (↑(BitVec.toNat (w.getD (l.getD j i0).toNat w0)) : Int)) (H.mk [] [] [])), Ans.o (Orc.val (36 : Nat) (AV.int IntKind.u64 (↑(BitVec.toNat (c ||| wt_ w (at_ l j).toNat)) : Int)) (H.mk [] [] []))], fun u => of_eq ((↑j : Int) < (↑l.length : Int) ∧ aIndexAddr Tryd.prog (22 : Nat) (AV.sl (ints l) l.length q) (I (↑j : Int)) = some (AV.cptr (ints (List.drop j l))) ∧ aLoad Tryd.prog (3 : Nat) (ints (List.drop j l)) = some (I (l.getD j i0)) ∧ last < l.getD j i0 ∧ l.getD j i0 < (↑w.length : Int) ∧ aBin Tryd.prog BinOp.shr (71 : Nat) (AV.int IntKind.u64 (↑(BitVec.toNat c) : Int)) (I (l.getD j i0)) = some (AV.int IntKind.u64 (↑(c >>> (at_ l j).toNat).toNat : Int)) ∧ aBin Tryd.prog BinOp.and (71 : Nat) (AV.int IntKind.u64 (↑(c >>> (at_ l j).toNat).toNat : Int)) (AV.int IntKind.u64 (1 : Int)) = some (AV.int IntKind.u64 (0 : Int)) ∧ aIndexAddr Tryd.prog (67 : Nat) (AV.sl (u64s w) w.length r) (I (l.getD j i0)) = some (AV.cptr (u64s (List.drop (l.getD j i0).toNat w))) ∧ aLoad Tryd.prog (71 : Nat) (u64s (List.drop (l.getD j i0).toNat w)) = some (AV.int IntKind.u64 (↑(BitVec.toNat (w.getD (l.getD j i0).toNat w0)) : Int)) ∧ aBin Tryd.prog BinOp.or (71 : Nat) (AV.int IntKind.u64 (↑(BitVec.toNat c) : Int)) (AV.int IntKind.u64 (↑(BitVec.toNat (w.getD (l.getD j i0).toNat w0)) : Int)) = some (AV.int IntKind.u64 (↑(BitVec.toNat (c ||| wt_ w (at_ l j).toNat)) : Int)) ∧ IntKind.i64.wrap ((↑j : Int) + (1 : Int)) = (↑j : Int) + (1 : Int) ∧ (39 : Nat) = (39 : Nat) ∧ j < l.length ∧ Keep (∃ c_1 last, H.mk [] [] [] = H.mk [] [] [] ∧ [AV.sl (u64s w) w.length r, AV.int IntKind.u64 (↑(BitVec.toNat (c ||| wt_ w (at_ l j).toNat)) : Int), I (l.getD j i0), AV.sl (ints l) l.length q, I (↑l.length : Int), I ((↑j : Int) + (1 : Int))] = [AV.sl (u64s w) w.length r, AV.int IntKind.u64 (↑(BitVec.toNat c_1) : Int), I last, AV.sl (ints l) l.length q, I (↑l.length : Int), I (↑(j + (1 : Nat)) : Int)] ∧ icF w (BitVec.ofNat (64 : Nat) (0 : Nat)) (-1 : Int) l = icF w c_1 last (List.drop (j + (1 : Nat)) l) ∧ (-1 : Int) ≤ last)) (by kernel_rfl) ?_⟩
          refine And.intro (by first | with_reducible assumption | omega | assumption) ?_
          refine And.intro (by first | exact ix_ints (by kernel_rfl) (by omega) (by assumption) | exact ix_ints (by kernel_rfl) (by omega) (rok_idx (by assumption) (by omega))) ?_
          refine And.intro (by first | exact ld_ints (by kernel_rfl) (by kernel_rfl) (by omega) | exact ldm_ints (by kernel_rfl) (by kernel_rfl) (by first | omega | (simp; omega))) ?_
          refine And.intro (by first | with_reducible assumption | omega | assumption) ?_
          refine And.intro (by first | with_reducible assumption | omega | assumption) ?_
          refine And.intro (by first | exact told_shr (by omega) (by with_reducible assumption) | exact told_shr (by omega) rfl) ?_
          refine And.intro (by exact told_and (by with_reducible assumption)) ?_
          refine And.intro (by exact ix_u64s' (by kernel_rfl) c0 c2 hrw) ?_
          refine And.intro (by first | exact ld_u64s (by kernel_rfl) (by kernel_rfl) (by omega) | exact ldm_u64s (by kernel_rfl) (by kernel_rfl) (by first | omega | (simp; omega))) ?_
          refine And.intro (by exact told_or (by with_reducible assumption)) ?_
          refine And.intro (by exact wr _ (by omega) (by omega)) ?_
          refine And.intro (by first | with_reducible assumption | omega | assumption) ?_
          refine And.intro (by first | with_reducible assumption | omega | assumption) ?_
          exact ⟨_, _, rfl, rfl, ha, hk⟩
        · rw [c3, if_pos rfl] at ha
          have ev1 : _ = (1 : Int) := w_bit true c3
          refine ⟨[Ans.o (Orc.b true), Ans.o (Orc.val (13 : Nat) (AV.cptr (ints (List.drop j l))) H.nil), Ans.o (Orc.val (14 : Nat) (I (l.getD j i0)) H.nil), Ans.o (Orc.b false), Ans.o (Orc.b false), Ans.o (Orc.val (27 : Nat) (AV.int IntKind.u64 (↑(c >>> (at_ l j).toNat).toNat : Int)) (H.mk [] [] [])), Ans.o (Orc.val (28 : Nat) (AV.int IntKind.u64 (1 : Int)) (H.mk [] [] [])), Ans.o Orc.dflt], fun u => of_eq ((↑j : Int) < (↑l.length : Int) ∧ aIndexAddr Tryd.prog (22 : Nat) (AV.sl (ints l) l.length q) (I (↑j : Int)) = some (AV.cptr (ints (List.drop j l))) ∧ aLoad Tryd.prog (3 : Nat) (ints (List.drop j l)) = some (I (l.getD j i0)) ∧ last < l.getD j i0 ∧ l.getD j i0 < (↑w.length : Int) ∧ aBin Tryd.prog BinOp.shr (71 : Nat) (AV.int IntKind.u64 (↑(BitVec.toNat c) : Int)) (I (l.getD j i0)) = some (AV.int IntKind.u64 (↑(c >>> (at_ l j).toNat).toNat : Int)) ∧ aBin Tryd.prog BinOp.and (71 : Nat) (AV.int IntKind.u64 (↑(c >>> (at_ l j).toNat).toNat : Int)) (AV.int IntKind.u64 (1 : Int)) = some (AV.int IntKind.u64 (1 : Int)) ∧ (39 : Nat) = (39 : Nat) ∧ hits [Out.mk Unit AX.ret [(4 : Nat)] (fun x => icF w (BitVec.ofNat (64 : Nat) (0 : Nat)) (-1 : Int) l = false) (fun x => [AV.bool false]) (fun x => H.nil) fun x => [], Out.mk Unit (AX.exit (0 : Nat)) [] (fun x => icF w (BitVec.ofNat (64 : Nat) (0 : Nat)) (-1 : Int) l = true) (fun x => []) (fun x => H.nil) fun x => []] AX.ret [AV.sl (u64s w) w.length r, u (1 : Nat), u (2 : Nat), u (3 : Nat), AV.bool false, AV.int IntKind.u64 (↑(BitVec.toNat c) : Int), I last, u (7 : Nat), I (l.getD j i0), AV.sl (ints l) l.length q, I (↑l.length : Int), I (↑j : Int), AV.bool true, AV.cptr (ints (List.drop j l)), I (l.getD j i0), I (l.getD j i0), I last, AV.bool false, AV.bool false, I (l.getD j i0), AV.sl (u64s w) w.length r, I (↑w.length : Int), AV.bool false, AV.bool false, AV.bool false, AV.int IntKind.u64 (↑(BitVec.toNat c) : Int), I (l.getD j i0), AV.int IntKind.u64 (↑(c >>> (at_ l j).toNat).toNat : Int), AV.int IntKind.u64 (1 : Int), AV.bool true, AV.bool true, u (31 : Nat), u (32 : Nat), u (33 : Nat), u (34 : Nat), u (35 : Nat), u (36 : Nat), u (37 : Nat), u (38 : Nat)] (H.mk [] [] [])) (by kernel_rfl) ?_⟩
          refine And.intro (by first | with_reducible assumption | omega | assumption) ?_
          refine And.intro (by first | exact ix_ints (by kernel_rfl) (by omega) (by assumption) | exact ix_ints (by kernel_rfl) (by omega) (rok_idx (by assumption) (by omega))) ?_
          refine And.intro (by first | exact ld_ints (by kernel_rfl) (by kernel_rfl) (by omega) | exact ldm_ints (by kernel_rfl) (by kernel_rfl) (by first | omega | (simp; omega))) ?_
          refine And.intro (by first | with_reducible assumption | omega | assumption) ?_
          refine And.intro (by first | with_reducible assumption | omega | assumption) ?_
          refine And.intro (by first | exact told_shr (by omega) (by with_reducible assumption) | exact told_shr (by omega) rfl) ?_
          refine And.intro (by exact told_and (by with_reducible assumption)) ?_
          refine And.intro (by first | with_reducible assumption | omega | assumption) ?_
          exact .inl ⟨(), ha, rfl, rfl, rfl⟩
  · have hz : (l.length : Int) ≤ j := by omega
    have hj' : j = l.length := by omega
    subst hj'
    rw [List.drop_length] at ha
    have ha : icF w 0#64 (-1) l = true := ha
    refine ⟨[Ans.o (Orc.b false)], fun u => of_eq ((↑l.length : Int) ≤ (↑l.length : Int) ∧ (39 : Nat) = (39 : Nat) ∧ hits [Out.mk Unit AX.ret [(4 : Nat)] (fun x => icF w (BitVec.ofNat (64 : Nat) (0 : Nat)) (-1 : Int) l = false) (fun x => [AV.bool false]) (fun x => H.nil) fun x => [], Out.mk Unit (AX.exit (0 : Nat)) [] (fun x => icF w (BitVec.ofNat (64 : Nat) (0 : Nat)) (-1 : Int) l = true) (fun x => []) (fun x => H.nil) fun x => []] (AX.exit (0 : Nat)) [AV.sl (u64s w) w.length r, u (1 : Nat), u (2 : Nat), u (3 : Nat), u (4 : Nat), AV.int IntKind.u64 (↑(BitVec.toNat c) : Int), I last, u (7 : Nat), u (8 : Nat), AV.sl (ints l) l.length q, I (↑l.length : Int), I (↑l.length : Int), AV.bool false, u (13 : Nat), u (14 : Nat), u (15 : Nat), u (16 : Nat), u (17 : Nat), u (18 : Nat), u (19 : Nat), u (20 : Nat), u (21 : Nat), u (22 : Nat), u (23 : Nat), u (24 : Nat), u (25 : Nat), u (26 : Nat), u (27 : Nat), u (28 : Nat), u (29 : Nat), u (30 : Nat), u (31 : Nat), u (32 : Nat), u (33 : Nat), u (34 : Nat), u (35 : Nat), u (36 : Nat), u (37 : Nat), u (38 : Nat)] (H.mk [] [] [])) (by kernel_rfl) ?_⟩
    refine And.intro (by first | with_reducible assumption | omega | assumption) ?_
    refine And.intro (by first | with_reducible assumption | omega | assumption) ?_
    exact .inr (.inl ⟨(), ha, rfl, rfl, rfl⟩)
theorem ok63 : FokM Tryd.prog none1 63 Tryd.f63 := ⟨mixed, by kernel_rfl, by kernel_rfl, by kernel_rfl, by kernel_rfl⟩
theorem r63 (w : List W) (r : Room) (l : List Int) (q : Room) (hp : (rok w r ∧ w.length ≤ 64) ∧ lim l.length ∧ rok l q) : Body ⟨Tryd.prog, Sof (P := Tryd.prog) [], Pof (P := Tryd.prog) [], H.nil.base, 300⟩ none1 Tryd.f63 [ws w r, ls l q] .nil (.bool (icF w 0#64 (-1) l), .nil) := by
  obtain ⟨⟨h1, h2⟩, h3, h4⟩ := hp
  refine body_s ([Ans.loop [(0 : Nat), (5 : Nat), (6 : Nat), (9 : Nat), (10 : Nat), (11 : Nat)] [Out.mk Unit AX.ret [(4 : Nat)] (fun x => icF w (BitVec.ofNat (64 : Nat) (0 : Nat)) (-1 : Int) l = false) (fun x => [AV.bool false]) (fun x => H.nil) fun y => [], Out.mk Unit (AX.exit (0 : Nat)) [] (fun x => icF w (BitVec.ofNat (64 : Nat) (0 : Nat)) (-1 : Int) l = true) (fun x => []) (fun x => H.nil) fun y => []]]) (LoopS (Env.mk Tryd.prog (Sof (P := Tryd.prog) []) (Pof (P := Tryd.prog) []) H.nil.base (300 : Nat)) (loopAt Tryd.f63 (0 : Nat)) (39 : Nat) [(0 : Nat), (5 : Nat), (6 : Nat), (9 : Nat), (10 : Nat), (11 : Nat)] [AV.sl (u64s w) w.length r, AV.int IntKind.u64 (0 : Int), I (-1 : Int), AV.sl (ints l) l.length q, I (↑l.length : Int), I (0 : Int)] (H.mk [] [] []) [Out.mk Unit AX.ret [(4 : Nat)] (fun x => icF w (BitVec.ofNat (64 : Nat) (0 : Nat)) (-1 : Int) l = false) (fun x => [AV.bool false]) (fun x => H.nil) fun y => [], Out.mk Unit (AX.exit (0 : Nat)) [] (fun x => icF w (BitVec.ofNat (64 : Nat) (0 : Nat)) (-1 : Int) l = true) (fun x => []) (fun x => H.nil) fun y => []] ∧ (∀ (y : Unit), icF w (BitVec.ofNat (64 : Nat) (0 : Nat)) (-1 : Int) l = false → ∀ (u : Nat → AV), (AV.bool false, H.mk [] [] []) = (AV.bool (icF w (BitVec.ofNat (64 : Nat) (0 : Nat)) (-1 : Int) l), H.mk [] [] [])) ∧ (∀ (y : Unit), icF w (BitVec.ofNat (64 : Nat) (0 : Nat)) (-1 : Int) l = true → ∀ (u : Nat → AV), (AV.bool true, H.mk [] [] []) = (AV.bool (icF w (BitVec.ofNat (64 : Nat) (0 : Nat)) (-1 : Int) l), H.mk [] [] [])) ∧ True) (by kernel_rfl) ?_
  refine And.intro (by exact lp63 w r l q h1 h2 h3 h4) ?_
  refine And.intro ?_ ?_
  · skip
    intro y
    intro w1
    intro u
    first | exact congrArg (fun b => (AV.bool b, H.nil)) (by with_reducible assumption : icF w 0#64 (-1) l = false).symm | exact congrArg (fun b => (AV.bool b, H.nil)) (by with_reducible assumption : icF w 0#64 (-1) l = true).symm
  · skip
    refine And.intro ?_ ?_
    · skip
      intro y
      intro w1
      intro u
      first | exact congrArg (fun b => (AV.bool b, H.nil)) (by with_reducible assumption : icF w 0#64 (-1) l = false).symm | exact congrArg (fun b => (AV.bool b, H.nil)) (by with_reducible assumption : icF w 0#64 (-1) l = true).symm
    · skip
      trivial
noncomputable def c63 : PCtr Tryd.prog := sctr ok63 (X := List W × Room × List Int × Room) (fun x => [ws x.1 x.2.1, ls x.2.2.1 x.2.2.2]) (fun x => (rok x.1 x.2.1 ∧ x.1.length ≤ 64) ∧ lim x.2.2.1.length ∧ rok x.2.2.1 x.2.2.2) (fun x => .bool (icF x.1 0#64 (-1) x.2.2.1)) (by intro x y e _ _; simp at e; simp [e]) (fun x => by simp [AV.bnds, AV.bnd, AV.wk, rm_wk_bnd]) (fun x => by first | rfl | (simp [AV.bnd, rm_wk_bnd]; done)  | (simp [AV.bnd, AV.bnds, rm_wk_bnd]; done) | simp [AV.bnd, AV.bnds, Room.bnd, rm_wk_bnd]) (fun x hx => ⟨_, _, _, .nil, r63 (x.1) (x.2.1).wk (x.2.2.1) (x.2.2.2).wk (by first | exact hx | (simp only [rok_wk]; exact hx) | (simp only [rok_wk, lst_wk]; exact hx) | (simp only [rok_wk, lst_wk, lsn_wk]; exact hx))⟩)
/-- all words -/
def ful (n : Nat) : W := BitVec.allOnes 64 >>> (64 - n)
theorem ful_bit {n : Nat} (h : n ≤ 64) (k : Nat) : (ful n).getLsbD k = decide (k < n) := by
  rw [ful, BitVec.getLsbD_ushiftRight, BitVec.getLsbD_allOnes]
  simp only [decide_eq_decide]; omega
theorem ful_sub {n : Nat} (h : n ≤ 64) : sub (ful n) n := fun k hk => by
  rw [ful_bit h, decide_eq_true_eq] at hk; exact hk
/-- word by word -/
def frF (w : List W) : Nat → Nat → W → Nat → List Int
  | 0, _, _, _ => []
  | n + 1, j, s, m => if s.getLsbD j = false then frF w n (j + 1) s m else if 1 + msV w (s &&& ~~~wt_ w j) = m then (j : Int) :: frF w n (j + 1) (s &&& ~~~wt_ w j) (m - 1) else frF w n (j + 1) s m
def frV (w : List W) : List Int := frF w w.length 0 (ful w.length) (msV w (ful w.length))
theorem frF_len (w : List W) : ∀ n j s m, (frF w n j s m).length ≤ n
  | 0, _, _, _ => Nat.le_refl 0
  | n + 1, j, s, m => by
    simp only [frF]
    split
    · have := frF_len w n (j + 1) s m; omega
    · split
      · have := frF_len w n (j + 1) (s &&& ~~~wt_ w j) (m - 1); rw [List.length_cons]; omega
      · have := frF_len w n (j + 1) s m; omega
abbrev iacc (l : List Int) : AV := .sl (ints l) l.length (rm 0 l)
abbrev o64 (w : List W) : List Out :=
  [.mk Unit (.exit 0) [5] (fun _ => True) (fun _ => [iacc (frV w)]) (fun _ => ⟨[], tk (frV w), []⟩) (fun _ => [])]
theorem simp64 : allSimpleM none1 (loopAt Tryd.f64 0) = true := by kernel_rfl
theorem lp64 (w : List W) (r : Room) (hr : rok w r) (hw : rfx w) :
    LoopS (En6 [c92.to]) (loopAt Tryd.f64 0) 46 [0, 3, 4, 5, 16, 17] [ws w r, u64A (ful w.length), I (msV w (ful w.length) : Nat), .sl [] 0 .nil, I w.length, I 0] .nil (o64 w) := by
  have hR : Rests (En6 [c92.to]) none1 := rests mixed (.pure _ .nil)
  have h64 := hw.1
  refine loop_s hR simp64 none (by intro _ h; cases h) (fun j vs h => ∃ (s : W) (m : Nat) (l : List Int), m ≤ 64 ∧ h = ⟨[], tk l, []⟩ ∧ vs = [ws w r, u64A s, I (m : Nat), iacc l, I w.length, I j] ∧ frV w = l ++ frF w (w.length - j) j s m ∧ sub s w.length ∧ l.length ≤ j) w.length ⟨_, _, [], msV_le _ _, rfl, rfl, rfl, ful_sub h64, Nat.le_refl 0⟩ (by intro _ h; cases h) ?_
  rintro j vs h hj ⟨s, m, l, hm, rfl, rfl, ha, hs, hl⟩
  by_cases hz : (j : Int) < w.length
  · have hz' : j < w.length := by omega
    have hr' := rok_idx hr hz'
    have e : w.length - j = (w.length - (j + 1)) + 1 := by omega
    rw [e] at ha
    simp only [frF] at ha
    have ev0 := w_shr s (n := j) (by omega)
    cases c3 : s.getLsbD j
    · rw [c3, if_pos rfl] at ha
      have ev1 : _ = (0 : Int) := w_bit false c3
      refine ⟨[Ans.o (Orc.b true), Ans.o (Orc.val (22 : Nat) (AV.int IntKind.u64 (↑(s >>> j).toNat : Int)) (H.mk [] (tk l) [])), Ans.o (Orc.val (23 : Nat) (AV.int IntKind.u64 (0 : Int)) (H.mk [] (tk l) [])), Ans.o Orc.dflt], fun u => of_eq ((↑j : Int) < (↑w.length : Int) ∧ aBin Tryd.prog BinOp.shr (71 : Nat) (AV.int IntKind.u64 (↑(BitVec.toNat s) : Int)) (I (↑j : Int)) = some (AV.int IntKind.u64 (↑(s >>> j).toNat : Int)) ∧ aBin Tryd.prog BinOp.and (71 : Nat) (AV.int IntKind.u64 (↑(s >>> j).toNat : Int)) (AV.int IntKind.u64 (1 : Int)) = some (AV.int IntKind.u64 (0 : Int)) ∧ IntKind.i64.wrap ((↑j : Int) + (1 : Int)) = (↑j : Int) + (1 : Int) ∧ (46 : Nat) = (46 : Nat) ∧ j < w.length ∧ Keep (∃ s_1 m_1 l_1, m_1 ≤ (64 : Nat) ∧ H.mk [] (tk l) [] = H.mk [] (tk l_1) [] ∧ [AV.sl (u64s w) w.length r, AV.int IntKind.u64 (↑(BitVec.toNat s) : Int), I (↑m : Int), AV.sl (ints l) l.length (rm (0 : Nat) l), I (↑w.length : Int), I ((↑j : Int) + (1 : Int))] = [AV.sl (u64s w) w.length r, AV.int IntKind.u64 (↑(BitVec.toNat s_1) : Int), I (↑m_1 : Int), AV.sl (ints l_1) l_1.length (rm (0 : Nat) l_1), I (↑w.length : Int), I (↑(j + (1 : Nat)) : Int)] ∧ frV w = l_1 ++ frF w (w.length - (j + (1 : Nat))) (j + (1 : Nat)) s_1 m_1 ∧ sub s_1 w.length ∧ l_1.length ≤ j + (1 : Nat))) (by kernel_rfl) ?_⟩
      refine And.intro (by first | with_reducible assumption | omega | assumption) ?_
      refine And.intro (by first | exact told_shr (by omega) (by with_reducible assumption) | exact told_shr (by omega) rfl) ?_
      refine And.intro (by exact told_and (by with_reducible assumption)) ?_
      refine And.intro (by exact wr _ (by omega) (by omega)) ?_
      refine And.intro (by first | with_reducible assumption | omega | assumption) ?_
      refine And.intro (by first | with_reducible assumption | omega | assumption) ?_
      exact ⟨s, m, l, hm, rfl, rfl, ha, hs, by omega⟩
    · rw [c3, if_neg (by simp)] at ha
      have ev1 : _ = (1 : Int) := w_bit true c3
      have ev2 := w_andn s (wt_ w j)
      have ev3 := i_add1 (msV_le w (s &&& ~~~wt_ w j))
      have p92 : w92 w r (s &&& ~~~wt_ w j) := ⟨⟨hr, hw⟩, sub_andn hs⟩
      by_cases c4 : 1 + msV w (s &&& ~~~wt_ w j) = m
      · rw [if_pos c4] at ha
        have c5 : ((1 + msV w (s &&& ~~~wt_ w j) : Nat) : Int) = (m : Int) := by omega
        have ev4 : IntKind.i64.wrap ((m : Int) - 1) = ((m - 1 : Nat) : Int) := by
          have : (m : Int) - 1 = ((m - 1 : Nat) : Int) := by omega
          rw [this]; exact i_wrap (by omega)
        have ha : frV w = (l ++ [(j : Int)]) ++ frF w (w.length - (j + 1)) (j + 1) (s &&& ~~~wt_ w j) (m - 1) := by rw [ha, List.append_assoc]; rfl
        have hs2 := sub_andn (a := wt_ w j) hs
        have hlen : (l ++ [(j : Int)]).length ≤ j + 1 := by simp; omega
        refine ⟨[Ans.o (Orc.b true), Ans.o (Orc.val (22 : Nat) (AV.int IntKind.u64 (↑(s >>> j).toNat : Int)) (H.mk [] (tk l) [])), Ans.o (Orc.val (23 : Nat) (AV.int IntKind.u64 (1 : Int)) (H.mk [] (tk l) [])), Ans.o Orc.dflt, Ans.o (Orc.val (28 : Nat) (AV.cptr (u64s (List.drop j w))) (H.mk [] (tk l) [])), Ans.o (Orc.val (29 : Nat) (AV.int IntKind.u64 (↑(BitVec.toNat (w.getD j w0)) : Int)) (H.mk [] (tk l) [])), Ans.o (Orc.val (30 : Nat) (AV.int IntKind.u64 (↑(BitVec.toNat (s &&& ~~~wt_ w j)) : Int)) (H.mk [] (tk l) [])), Ans.o (Orc.val (33 : Nat) (I (↑(msV w (s &&& ~~~wt_ w j)) : Int)) (H.mk [] (tk l) [])), Ans.o (Orc.val (34 : Nat) (I (↑((1 : Nat) + msV w (s &&& ~~~wt_ w j)) : Int)) (H.mk [] (tk l) [])), Ans.o (Orc.b true), Ans.o (Orc.val (40 : Nat) (AV.sl (ints (l ++ [(↑j : Int)])) (l ++ [(↑j : Int)]).length (rm (0 : Nat) (l ++ [(↑j : Int)]))) (H.mk [] (tk (l ++ [(↑j : Int)])) [])), Ans.o (Orc.val (43 : Nat) (I (↑(m - (1 : Nat)) : Int)) (H.mk [] (tk (l ++ [(↑j : Int)])) []))], fun u => of_eq ((↑j : Int) < (↑w.length : Int) ∧ aBin Tryd.prog BinOp.shr (71 : Nat) (AV.int IntKind.u64 (↑(BitVec.toNat s) : Int)) (I (↑j : Int)) = some (AV.int IntKind.u64 (↑(s >>> j).toNat : Int)) ∧ aBin Tryd.prog BinOp.and (71 : Nat) (AV.int IntKind.u64 (↑(s >>> j).toNat : Int)) (AV.int IntKind.u64 (1 : Int)) = some (AV.int IntKind.u64 (1 : Int)) ∧ aIndexAddr Tryd.prog (67 : Nat) (AV.sl (u64s w) w.length r) (I (↑j : Int)) = some (AV.cptr (u64s (List.drop j w))) ∧ aLoad Tryd.prog (71 : Nat) (u64s (List.drop j w)) = some (AV.int IntKind.u64 (↑(BitVec.toNat (w.getD j w0)) : Int)) ∧ aBin Tryd.prog BinOp.andNot (71 : Nat) (AV.int IntKind.u64 (↑(BitVec.toNat s) : Int)) (AV.int IntKind.u64 (↑(BitVec.toNat (w.getD j w0)) : Int)) = some (AV.int IntKind.u64 (↑(BitVec.toNat (s &&& ~~~wt_ w j)) : Int)) ∧ aCall (Sof [c92.to]) (AV.fn (Fn.func (92 : Nat)) [] []) [AV.sl (u64s w) w.length r, AV.int IntKind.u64 (↑(BitVec.toNat (s &&& ~~~wt_ w j)) : Int)] (H.mk [] (tk l) []) = some (I (↑(msV w (s &&& ~~~wt_ w j)) : Int), H.mk [] (tk l) []) ∧ aBin Tryd.prog BinOp.add (3 : Nat) (I (1 : Int)) (I (↑(msV w (s &&& ~~~wt_ w j)) : Int)) = some (I (↑((1 : Nat) + msV w (s &&& ~~~wt_ w j)) : Int)) ∧ (↑((1 : Nat) + msV w (s &&& ~~~wt_ w j)) : Int) = (↑m : Int) ∧ aAppend Tryd.prog (22 : Nat) (22 : Nat) (AV.sl (ints l) l.length (rm (0 : Nat) l)) (AV.sl [I (↑j : Int)] (1 : Nat) Room.full) (H.mk [] (tk l) []) = some (AV.sl (ints (l ++ [(↑j : Int)])) (l ++ [(↑j : Int)]).length (rm (0 : Nat) (l ++ [(↑j : Int)])), H.mk [] (tk (l ++ [(↑j : Int)])) []) ∧ aBin Tryd.prog BinOp.sub (3 : Nat) (I (↑m : Int)) (I (1 : Int)) = some (I (↑(m - (1 : Nat)) : Int)) ∧ IntKind.i64.wrap ((↑j : Int) + (1 : Int)) = (↑j : Int) + (1 : Int) ∧ (46 : Nat) = (46 : Nat) ∧ j < w.length ∧ Keep (∃ s_1 m_1 l_1, m_1 ≤ (64 : Nat) ∧ H.mk [] (tk (l ++ [(↑j : Int)])) [] = H.mk [] (tk l_1) [] ∧ [AV.sl (u64s w) w.length r, AV.int IntKind.u64 (↑(BitVec.toNat (s &&& ~~~wt_ w j)) : Int), I (↑(m - (1 : Nat)) : Int), AV.sl (ints (l ++ [(↑j : Int)])) (l ++ [(↑j : Int)]).length (rm (0 : Nat) (l ++ [(↑j : Int)])), I (↑w.length : Int), I ((↑j : Int) + (1 : Int))] = [AV.sl (u64s w) w.length r, AV.int IntKind.u64 (↑(BitVec.toNat s_1) : Int), I (↑m_1 : Int), AV.sl (ints l_1) l_1.length (rm (0 : Nat) l_1), I (↑w.length : Int), I (↑(j + (1 : Nat)) : Int)] ∧ frV w = l_1 ++ frF w (w.length - (j + (1 : Nat))) (j + (1 : Nat)) s_1 m_1 ∧ sub s_1 w.length ∧ l_1.length ≤ j + (1 : Nat))) (by kernel_rfl) ?_⟩
        refine And.intro (by first | with_reducible assumption | omega | assumption) ?_
        refine And.intro (by first | exact told_shr (by omega) (by with_reducible assumption) | exact told_shr (by omega) rfl) ?_
        refine And.intro (by exact told_and (by with_reducible assumption)) ?_
        refine And.intro (by first | exact ix_u64s (by kernel_rfl) (by omega) (by assumption) | exact ix_u64s (by kernel_rfl) (by omega) (rok_idx (by assumption) (by omega))) ?_
        refine And.intro (by first | exact ld_u64s (by kernel_rfl) (by kernel_rfl) (by omega) | exact ldm_u64s (by kernel_rfl) (by kernel_rfl) (by first | omega | (simp; omega))) ?_
        refine And.intro (by exact told_andn (by with_reducible assumption)) ?_
        refine And.intro (by exact acall_hit (c := c92.to) (w, r, s &&& ~~~wt_ w j) _ rfl p92) ?_
        refine And.intro (by exact told_add (by with_reducible assumption)) ?_
        refine And.intro (by first | with_reducible assumption | omega | assumption) ?_
        refine And.intro (by exact app_ints (by kernel_rfl) (by omega)) ?_
        refine And.intro (by exact told_sub (by with_reducible assumption)) ?_
        refine And.intro (by exact wr _ (by omega) (by omega)) ?_
        refine And.intro (by first | with_reducible assumption | omega | assumption) ?_
        refine And.intro (by first | with_reducible assumption | omega | assumption) ?_
        exact ⟨_, m - 1, _, by omega, rfl, rfl, ha, hs2, hlen⟩
      · rw [if_neg c4] at ha
        have c5 : ((1 + msV w (s &&& ~~~wt_ w j) : Nat) : Int) ≠ (m : Int) := by omega
        refine ⟨[Ans.o (Orc.b true), Ans.o (Orc.val (22 : Nat) (AV.int IntKind.u64 (↑(s >>> j).toNat : Int)) (H.mk [] (tk l) [])), Ans.o (Orc.val (23 : Nat) (AV.int IntKind.u64 (1 : Int)) (H.mk [] (tk l) [])), Ans.o Orc.dflt, Ans.o (Orc.val (28 : Nat) (AV.cptr (u64s (List.drop j w))) (H.mk [] (tk l) [])), Ans.o (Orc.val (29 : Nat) (AV.int IntKind.u64 (↑(BitVec.toNat (w.getD j w0)) : Int)) (H.mk [] (tk l) [])), Ans.o (Orc.val (30 : Nat) (AV.int IntKind.u64 (↑(BitVec.toNat (s &&& ~~~wt_ w j)) : Int)) (H.mk [] (tk l) [])), Ans.o (Orc.val (33 : Nat) (I (↑(msV w (s &&& ~~~wt_ w j)) : Int)) (H.mk [] (tk l) [])), Ans.o (Orc.val (34 : Nat) (I (↑((1 : Nat) + msV w (s &&& ~~~wt_ w j)) : Int)) (H.mk [] (tk l) [])), Ans.o (Orc.b false)], fun u => of_eq ((↑j : Int) < (↑w.length : Int) ∧ aBin Tryd.prog BinOp.shr (71 : Nat) (AV.int IntKind.u64 (↑(BitVec.toNat s) : Int)) (I (↑j : Int)) = some (AV.int IntKind.u64 (↑(s >>> j).toNat : Int)) ∧ aBin Tryd.prog BinOp.and (71 : Nat) (AV.int IntKind.u64 (↑(s >>> j).toNat : Int)) (AV.int IntKind.u64 (1 : Int)) = some (AV.int IntKind.u64 (1 : Int)) ∧ aIndexAddr Tryd.prog (67 : Nat) (AV.sl (u64s w) w.length r) (I (↑j : Int)) = some (AV.cptr (u64s (List.drop j w))) ∧ aLoad Tryd.prog (71 : Nat) (u64s (List.drop j w)) = some (AV.int IntKind.u64 (↑(BitVec.toNat (w.getD j w0)) : Int)) ∧ aBin Tryd.prog BinOp.andNot (71 : Nat) (AV.int IntKind.u64 (↑(BitVec.toNat s) : Int)) (AV.int IntKind.u64 (↑(BitVec.toNat (w.getD j w0)) : Int)) = some (AV.int IntKind.u64 (↑(BitVec.toNat (s &&& ~~~wt_ w j)) : Int)) ∧ aCall (Sof [c92.to]) (AV.fn (Fn.func (92 : Nat)) [] []) [AV.sl (u64s w) w.length r, AV.int IntKind.u64 (↑(BitVec.toNat (s &&& ~~~wt_ w j)) : Int)] (H.mk [] (tk l) []) = some (I (↑(msV w (s &&& ~~~wt_ w j)) : Int), H.mk [] (tk l) []) ∧ aBin Tryd.prog BinOp.add (3 : Nat) (I (1 : Int)) (I (↑(msV w (s &&& ~~~wt_ w j)) : Int)) = some (I (↑((1 : Nat) + msV w (s &&& ~~~wt_ w j)) : Int)) ∧ (↑((1 : Nat) + msV w (s &&& ~~~wt_ w j)) : Int) ≠ (↑m : Int) ∧ IntKind.i64.wrap ((↑j : Int) + (1 : Int)) = (↑j : Int) + (1 : Int) ∧ (46 : Nat) = (46 : Nat) ∧ j < w.length ∧ Keep (∃ s_1 m_1 l_1, m_1 ≤ (64 : Nat) ∧ H.mk [] (tk l) [] = H.mk [] (tk l_1) [] ∧ [AV.sl (u64s w) w.length r, AV.int IntKind.u64 (↑(BitVec.toNat s) : Int), I (↑m : Int), AV.sl (ints l) l.length (rm (0 : Nat) l), I (↑w.length : Int), I ((↑j : Int) + (1 : Int))] = [AV.sl (u64s w) w.length r, AV.int IntKind.u64 (↑(BitVec.toNat s_1) : Int), I (↑m_1 : Int), AV.sl (ints l_1) l_1.length (rm (0 : Nat) l_1), I (↑w.length : Int), I (↑(j + (1 : Nat)) : Int)] ∧ frV w = l_1 ++ frF w (w.length - (j + (1 : Nat))) (j + (1 : Nat)) s_1 m_1 ∧ sub s_1 w.length ∧ l_1.length ≤ j + (1 : Nat))) (by kernel_rfl) ?_⟩
        refine And.intro (by first | with_reducible assumption | omega | assumption) ?_
        refine And.intro (by first | exact told_shr (by omega) (by with_reducible assumption) | exact told_shr (by omega) rfl) ?_
        refine And.intro (by exact told_and (by with_reducible assumption)) ?_
        refine And.intro (by first | exact ix_u64s (by kernel_rfl) (by omega) (by assumption) | exact ix_u64s (by kernel_rfl) (by omega) (rok_idx (by assumption) (by omega))) ?_
        refine And.intro (by first | exact ld_u64s (by kernel_rfl) (by kernel_rfl) (by omega) | exact ldm_u64s (by kernel_rfl) (by kernel_rfl) (by first | omega | (simp; omega))) ?_
        refine And.intro (by exact told_andn (by with_reducible assumption)) ?_
        refine And.intro (by exact acall_hit (c := c92.to) (w, r, s &&& ~~~wt_ w j) _ rfl p92) ?_
        refine And.intro (by exact told_add (by with_reducible assumption)) ?_
        refine And.intro (by first | with_reducible assumption | omega | assumption) ?_
        refine And.intro (by exact wr _ (by omega) (by omega)) ?_
        refine And.intro (by first | with_reducible assumption | omega | assumption) ?_
        refine And.intro (by first | with_reducible assumption | omega | assumption) ?_
        exact ⟨s, m, l, hm, rfl, rfl, ha, hs, by omega⟩
  · have hz : (w.length : Int) ≤ j := by omega
    have e : w.length - j = 0 := by omega
    rw [e] at ha
    have ha : frV w = l := by rw [ha]; exact List.append_nil l
    refine ⟨[Ans.o (Orc.b false)], fun u => of_eq ((↑w.length : Int) ≤ (↑j : Int) ∧ (46 : Nat) = (46 : Nat) ∧ hits [Out.mk Unit (AX.exit (0 : Nat)) [(5 : Nat)] (fun x => True) (fun x => [iacc (frV w)]) (fun x => H.mk [] (tk (frV w)) []) fun x => []] (AX.exit (0 : Nat)) [AV.sl (u64s w) w.length r, u (1 : Nat), u (2 : Nat), AV.int IntKind.u64 (↑(BitVec.toNat s) : Int), I (↑m : Int), AV.sl (ints l) l.length (rm (0 : Nat) l), u (6 : Nat), u (7 : Nat), u (8 : Nat), u (9 : Nat), u (10 : Nat), u (11 : Nat), u (12 : Nat), u (13 : Nat), u (14 : Nat), u (15 : Nat), I (↑w.length : Int), I (↑j : Int), AV.bool false, u (19 : Nat), u (20 : Nat), u (21 : Nat), u (22 : Nat), u (23 : Nat), u (24 : Nat), u (25 : Nat), u (26 : Nat), u (27 : Nat), u (28 : Nat), u (29 : Nat), u (30 : Nat), u (31 : Nat), u (32 : Nat), u (33 : Nat), u (34 : Nat), u (35 : Nat), u (36 : Nat), u (37 : Nat), u (38 : Nat), u (39 : Nat), u (40 : Nat), u (41 : Nat), u (42 : Nat), u (43 : Nat), u (44 : Nat), u (45 : Nat)] (H.mk [] (tk l) [])) (by kernel_rfl) ?_⟩
    refine And.intro (by first | with_reducible assumption | omega | assumption) ?_
    refine And.intro (by first | with_reducible assumption | omega | assumption) ?_
    exact .inl ⟨(), trivial, rfl, by rw [ha]; rfl, by rw [ha]⟩
theorem ok64 : FokM Tryd.prog none1 64 Tryd.f64 := ⟨mixed, by kernel_rfl, by kernel_rfl, by kernel_rfl, by kernel_rfl⟩
theorem r64 (w : List W) (r : Room) (hp : rok w r ∧ rfx w) : Body ⟨Tryd.prog, Sof (P := Tryd.prog) [c92.to], Pof (P := Tryd.prog) [], H.nil.base, 300⟩ none1 Tryd.f64 [ws w r] .nil (iacc (frV w), ⟨[], tk (frV w), []⟩) := by
  obtain ⟨hr, hw⟩ := hp
  have h64 := hw.1
  have p92 : w92 w r (ful w.length) := ⟨⟨hr, hw⟩, ful_sub h64⟩
  have ev0 : IntKind.i64.wrap (64 - (w.length : Int)) = ((64 - w.length : Nat) : Int) := by
    have : 64 - (w.length : Int) = ((64 - w.length : Nat) : Int) := by omega
    rw [this]; exact i_wrap (by omega)
  have ev1 : (18446744073709551615 : Int).fdiv (2 ^ min (((64 - w.length : Nat) : Int)).toNat IntKind.u64.bits) = ((ful w.length).toNat : Int) := w_shr (BitVec.allOnes 64) (n := 64 - w.length) (by omega)
  refine body_s ([Ans.o (Orc.val (10 : Nat) (I (↑((64 : Nat) - w.length) : Int)) (H.mk [] [] [])), Ans.o (Orc.val (11 : Nat) (AV.int IntKind.u64 (↑(BitVec.toNat (ful w.length)) : Int)) (H.mk [] [] [])), Ans.o (Orc.val (14 : Nat) (I (↑(msV w (ful w.length)) : Int)) (H.mk [] [] [])), Ans.loop [(0 : Nat), (3 : Nat), (4 : Nat), (5 : Nat), (16 : Nat), (17 : Nat)] [Out.mk Unit (AX.exit (0 : Nat)) [(5 : Nat)] (fun x => True) (fun x => [iacc (frV w)]) (fun x => H.mk [] (tk (frV w)) []) fun y => []]]) (aBin Tryd.prog BinOp.sub (3 : Nat) (I (64 : Int)) (I (↑w.length : Int)) = some (I (↑((64 : Nat) - w.length) : Int)) ∧ aBin Tryd.prog BinOp.shr (71 : Nat) (AV.int IntKind.u64 (18446744073709551615 : Int)) (I (↑((64 : Nat) - w.length) : Int)) = some (AV.int IntKind.u64 (↑(BitVec.toNat (ful w.length)) : Int)) ∧ aCall (Sof [c92.to]) (AV.fn (Fn.func (92 : Nat)) [] []) [AV.sl (u64s w) w.length r, AV.int IntKind.u64 (↑(BitVec.toNat (ful w.length)) : Int)] (H.mk [] [] []) = some (I (↑(msV w (ful w.length)) : Int), H.mk [] [] []) ∧ LoopS (Env.mk Tryd.prog (Sof [c92.to]) (Pof (P := Tryd.prog) []) H.nil.base (300 : Nat)) (loopAt Tryd.f64 (0 : Nat)) (46 : Nat) [(0 : Nat), (3 : Nat), (4 : Nat), (5 : Nat), (16 : Nat), (17 : Nat)] [AV.sl (u64s w) w.length r, AV.int IntKind.u64 (↑(BitVec.toNat (ful w.length)) : Int), I (↑(msV w (ful w.length)) : Int), AV.sl [] (0 : Nat) Room.nil, I (↑w.length : Int), I (0 : Int)] (H.mk [] [] []) [Out.mk Unit (AX.exit (0 : Nat)) [(5 : Nat)] (fun x => True) (fun x => [iacc (frV w)]) (fun x => H.mk [] (tk (frV w)) []) fun y => []] ∧ (∀ (y : Unit), True → ∀ (u : Nat → AV), leave (Base.mk H.nil.blk.length H.nil.toks.length H.nil.maps.length) (AV.sl (ints (frV w)) (frV w).length (rm (0 : Nat) (frV w))) (H.mk [] (tk (frV w)) []) = (AV.sl (ints (frV w)) (frV w).length (rm (0 : Nat) (frV w)), H.mk [] (tk (frV w)) [])) ∧ True) (by kernel_rfl) ?_
  refine And.intro (by exact told_sub (by with_reducible assumption)) ?_
  refine And.intro (by first | exact told_shr (by omega) (by with_reducible assumption) | exact told_shr (by omega) rfl) ?_
  refine And.intro (by exact acall_hit (c := c92.to) (w, r, ful w.length) _ rfl p92) ?_
  refine And.intro (by exact lp64 w r hr hw) ?_
  refine And.intro ?_ ?_
  · skip
    intro y
    intro w1
    intro u
    exact leave_intsa _
  · skip
    trivial
noncomputable def c64 : PCtr Tryd.prog := slctr ok64 (X := List W × Room) (fun x => [ws x.1 x.2]) (fun x => rok x.1 x.2 ∧ rfx x.1) (fun x => ls (frV x.1) (rn (frV x.1))) (by intro x y e _ _; simp at e; simp [e]) (fun x => by simp [AV.bnds, AV.bnd, AV.wk, rm_wk_bnd]) (fun x => by first | rfl | (simp [AV.bnd, rm_wk_bnd]; done)  | (simp [AV.bnd, AV.bnds, rm_wk_bnd]; done) | simp [AV.bnd, AV.bnds, Room.bnd, rm_wk_bnd]) (fun x hx => ⟨_, _, _, iacc (frV x.1), tk (frV x.1), .pure c92 (.nil), r64 (x.1) (x.2).wk (by first | exact hx | (simp only [rok_wk]; exact hx) | (simp only [rok_wk, lst_wk]; exact hx) | (simp only [rok_wk, lst_wk, lsn_wk]; exact hx)), by simp [AV.plain, AV.plains, plains_ints, plains_rows], by first | (simp only [AV.wkd, wkds_rows]; done) | (simp only [AV.wkd, wkds_ints]; done) | simp [AV.wkd, AV.wkds, Room.wk]⟩)
end Go.Proofs.Sur
