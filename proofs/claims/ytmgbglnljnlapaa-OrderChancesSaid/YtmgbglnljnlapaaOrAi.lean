/- Layer 7: the lines one after another, by the reference: its code. -/
import Derived.Test.YtmgbglnljnlapaaOrAh
import Derived.KernelRfl
set_option linter.unusedSimpArgs false
set_option linter.unusedVariables false
set_option linter.unnecessarySimpa false
set_option maxHeartbeats 4000000
set_option maxRecDepth 100000
namespace Go.Proofs.Ord
open Go Go.VM
open Go.Proofs.Sur (andn andn_bit andn_le i_wrap i_and i_or i_andn i_shl i_shr bit_01)

abbrev X76 : Type := (List Int × Room) × Nat × List Nat × Room
abbrev a76 (x : X76) : List AV := [ls x.1.1 x.1.2, I x.2.1, bg x.2.2.1 x.2.2.2]
abbrev p76 (m : Nat) (o : List Int) (r : Room) (t : Nat) (b : List Nat) : Prop := (OrdL o ∧ rok o r) ∧ t < 2 ^ o.length ∧ pc (cm o.length t) = m ∧ b.length + m = o.length
abbrev v76 (m : Nat) (o : List Int) (t : Nat) (b : List Nat) : List (List Nat) := lns (rel o) o.length m t b
abbrev Ok76 (m : Nat) : Prop := ∀ x : X76, p76 m x.1.1 x.1.2 x.2.1 x.2.2.1 ∧ x.2.2.2.wk = rr (kr x.2.2.1) → callable Try.prog 76 = true ∧ ∀ H, CallOk Try.prog 76 (a76 x) H (rwl (v76 m x.1.1 x.2.1 x.2.2.1) .no) H
theorem ic_inj : ∀ {b c : List Nat}, ic b = ic c → b = c
  | [], [], _ => rfl
  | x :: b, y :: c, h => by simp only [ic, List.map_cons, List.cons.injEq, Int.natCast_inj] at h; rw [h.1, ic_inj h.2]
noncomputable def c76 (m : Nat) (ih : Ok76 m) : PCtr Try.prog where
  f := 76
  X := X76
  args := a76
  pre x := p76 m x.1.1 x.1.2 x.2.1 x.2.2.1 ∧ x.2.2.2.wk = rr (kr x.2.2.1)
  v x := rwl (v76 m x.1.1 x.2.1 x.2.2.1) .no
  det := by
    rintro ⟨⟨l, r⟩, t, b, s⟩ ⟨⟨l', r'⟩, t', b', s'⟩ e _ _
    simp only [a76, List.cons.injEq, AV.sl.injEq, AV.int.injEq, true_and, and_true, Int.natCast_inj, ints_eq] at e
    obtain ⟨⟨rfl, _, rfl⟩, rfl, hb, _, rfl⟩ := e
    rw [ic_inj hb]
  ok := ih
abbrev o76b (o : List Int) (r : Room) (t : Nat) (b : List Nat) (va : AV) (T : List Nat) (i : Nat) : List Out := [.mk Unit (.exit 2) [0, 1, 2, 7, 8, 9, 10, 21, 22] (fun _ => True) (fun _ => [ls o r, I t, bg b (rr (kr b)), I (ic b).length, va, I i, .bool (okB (rel o) t i o.length), I o.length, I i]) (fun _ => ⟨[], T, []⟩) (fun _ => [])]
theorem simp76b : allSimpleM none1 (loopAt Try.f76 1) = true := by kernel_rfl
theorem lp76b (m : Nat) (ih : Ok76 m) (o : List Int) (r : Room) (h : OrdL o ∧ rok o r) (t : Nat) (ht : t < 2 ^ o.length) (b : List Nat) (va : AV) (T : List Nat) (i : Nat) (hi : i < o.length) (q : Bool) (hb : okB (rel o) t i 0 = q) :
    LoopS (En6 [c73.to, (c76 m ih).to]) (loopAt Try.f76 1) 69 [0, 1, 2, 7, 8, 9, 10, 21, 22, 31, 32] [ls o r, I t, bg b (rr (kr b)), I (ic b).length, va, I i, .bool q, I o.length, I i, I o.length, I 0] ⟨[], T, []⟩ (o76b o r t b va T i) := by
  have hR : Rests (En6 [c73.to, (c76 m ih).to]) none1 := rests mixed (.pure _ (.pure _ .nil))
  have h6 := h.1.s.2
  have p6 : 2 ^ o.length ≤ 2 ^ 6 := Nat.pow_le_pow_right (by decide) h6
  refine loop_s hR simp76b none (by intro _ h; cases h) (fun k vs H => H = ⟨[], T, []⟩ ∧ vs = [ls o r, I t, bg b (rr (kr b)), I (ic b).length, va, I i, .bool (okB (rel o) t i k), I o.length, I i, I o.length, I k]) o.length ⟨rfl, by rw [hb]; rfl⟩ (by intro _ h; cases h) ?_
  rintro k vs H hk ⟨rfl, rfl⟩
  by_cases hz : (k : Int) < o.length
  · have hz' : k < o.length := by omega
    have ev0 := wj1 (j := k) (by omega)
    have hkk : okB (rel o) t i (k + 1) = (okB (rel o) t i k && (t.testBit k || !bi (ia o k) i)) := rfl
    have p73 : ((sz o ∧ rgO o) ∧ rok o r) ∧ k < o.length ∧ i ≤ 64 := ⟨⟨⟨h.1.s, h.1.r⟩, h.2⟩, hz', by omega⟩
    cases hf : okB (rel o) t i k
    · rw [hf] at hkk
      have hkk : okB (rel o) t i (k + 1) = false := hkk
      refine ⟨[Ans.o (Orc.b true), Ans.o (Orc.val 50 (I (↑(k + (1 : Nat)) : Int)) H.nil)], fun u => of_eq ((↑k : Int) < (↑o.length : Int) ∧ aBin Try.prog BinOp.add (3 : Nat) (I (↑k : Int)) (I 1) = some (I (↑(k + (1 : Nat)) : Int)) ∧ (69 : Nat) = (69 : Nat) ∧ k < o.length ∧ Keep (H.mk [] T [] = H.mk [] T [] ∧ [AV.sl (ints o) o.length r, I (↑t : Int), AV.sl (ints (ic b)) (ic b).length (rr (kr b)), I (↑(ic b).length : Int), va, I (↑i : Int), AV.bool false, I (↑o.length : Int), I (↑i : Int), I (↑o.length : Int), I (↑(k + (1 : Nat)) : Int)] = [AV.sl (ints o) o.length r, I (↑t : Int), AV.sl (ints (ic b)) (ic b).length (rr (kr b)), I (↑(ic b).length : Int), va, I (↑i : Int), AV.bool (okB (rel o) t i (k + (1 : Nat))), I (↑o.length : Int), I (↑i : Int), I (↑o.length : Int), I (↑(k + (1 : Nat)) : Int)])) (by kernel_rfl) ?_⟩
      refine ⟨by first | with_reducible assumption | omega | assumption, ?_⟩
      refine ⟨told_add (by with_reducible assumption), ?_⟩
      refine ⟨by first | with_reducible assumption | omega | assumption, ?_⟩
      refine ⟨by first | with_reducible assumption | omega | assumption, ?_⟩
      exact ⟨rfl, by rw [hkk]⟩
    · rw [hf] at hkk
      cases hv : t.testBit k
      · rw [hv] at hkk
        have ev1 := i_shr (a := t) (n := k) (by omega)
        have ev2 : IntKind.i64.wrap ((BitVec.ofInt IntKind.i64.bits ((t >>> k : Nat) : Int) &&& BitVec.ofInt IntKind.i64.bits 1).toNat : Int) = 0 := by rw [i_bit (by omega), hv]; rfl
        cases b1 : bi (ia o k) i
        · rw [b1] at hkk
          have hkk : okB (rel o) t i (k + 1) = true := hkk
          refine ⟨[Ans.o (Orc.b true), Ans.o (Orc.val 39 (I (↑(t >>> k) : Int)) H.nil), Ans.o (Orc.val 40 (I 0) H.nil), Ans.o Orc.dflt, Ans.o (Orc.val 46 (AV.bool false) (H.mk [] T [])), Ans.o (Orc.val 50 (I (↑(k + (1 : Nat)) : Int)) H.nil)], fun u => of_eq ((↑k : Int) < (↑o.length : Int) ∧ aBin Try.prog BinOp.shr (3 : Nat) (I (↑t : Int)) (I (↑k : Int)) = some (I (↑(t >>> k) : Int)) ∧ aBin Try.prog BinOp.and (3 : Nat) (I (↑(t >>> k) : Int)) (I 1) = some (I 0) ∧ aCall (Sof [c73.to, (c76 m ih).to]) (AV.fn (Fn.func (73 : Nat)) [] []) [AV.sl (ints o) o.length r, I (↑k : Int), I (↑i : Int)] (H.mk [] T []) = some (AV.bool false, H.mk [] T []) ∧ aBin Try.prog BinOp.add (3 : Nat) (I (↑k : Int)) (I 1) = some (I (↑(k + (1 : Nat)) : Int)) ∧ (69 : Nat) = (69 : Nat) ∧ k < o.length ∧ Keep (H.mk [] T [] = H.mk [] T [] ∧ [AV.sl (ints o) o.length r, I (↑t : Int), AV.sl (ints (ic b)) (ic b).length (rr (kr b)), I (↑(ic b).length : Int), va, I (↑i : Int), AV.bool true, I (↑o.length : Int), I (↑i : Int), I (↑o.length : Int), I (↑(k + (1 : Nat)) : Int)] = [AV.sl (ints o) o.length r, I (↑t : Int), AV.sl (ints (ic b)) (ic b).length (rr (kr b)), I (↑(ic b).length : Int), va, I (↑i : Int), AV.bool (okB (rel o) t i (k + (1 : Nat))), I (↑o.length : Int), I (↑i : Int), I (↑o.length : Int), I (↑(k + (1 : Nat)) : Int)])) (by kernel_rfl) ?_⟩
          refine ⟨by first | with_reducible assumption | omega | assumption, ?_⟩
          refine ⟨by first | exact told_shr (by first | exact Int.natCast_nonneg _ | omega) (by with_reducible assumption) | exact told_shr (by omega) rfl, ?_⟩
          refine ⟨told_and (by with_reducible assumption), ?_⟩
          refine ⟨acall_b (acall_hit (c := c73.to) (o, r, k, i) _ rfl p73) b1, ?_⟩
          refine ⟨told_add (by with_reducible assumption), ?_⟩
          refine ⟨by first | with_reducible assumption | omega | assumption, ?_⟩
          refine ⟨by first | with_reducible assumption | omega | assumption, ?_⟩
          exact ⟨rfl, by rw [hkk]⟩
        · rw [b1] at hkk
          have hkk : okB (rel o) t i (k + 1) = false := hkk
          refine ⟨[Ans.o (Orc.b true), Ans.o (Orc.val 39 (I (↑(t >>> k) : Int)) H.nil), Ans.o (Orc.val 40 (I 0) H.nil), Ans.o Orc.dflt, Ans.o (Orc.val 46 (AV.bool true) (H.mk [] T [])), Ans.o (Orc.val 50 (I (↑(k + (1 : Nat)) : Int)) H.nil)], fun u => of_eq ((↑k : Int) < (↑o.length : Int) ∧ aBin Try.prog BinOp.shr (3 : Nat) (I (↑t : Int)) (I (↑k : Int)) = some (I (↑(t >>> k) : Int)) ∧ aBin Try.prog BinOp.and (3 : Nat) (I (↑(t >>> k) : Int)) (I 1) = some (I 0) ∧ aCall (Sof [c73.to, (c76 m ih).to]) (AV.fn (Fn.func (73 : Nat)) [] []) [AV.sl (ints o) o.length r, I (↑k : Int), I (↑i : Int)] (H.mk [] T []) = some (AV.bool true, H.mk [] T []) ∧ aBin Try.prog BinOp.add (3 : Nat) (I (↑k : Int)) (I 1) = some (I (↑(k + (1 : Nat)) : Int)) ∧ (69 : Nat) = (69 : Nat) ∧ k < o.length ∧ Keep (H.mk [] T [] = H.mk [] T [] ∧ [AV.sl (ints o) o.length r, I (↑t : Int), AV.sl (ints (ic b)) (ic b).length (rr (kr b)), I (↑(ic b).length : Int), va, I (↑i : Int), AV.bool false, I (↑o.length : Int), I (↑i : Int), I (↑o.length : Int), I (↑(k + (1 : Nat)) : Int)] = [AV.sl (ints o) o.length r, I (↑t : Int), AV.sl (ints (ic b)) (ic b).length (rr (kr b)), I (↑(ic b).length : Int), va, I (↑i : Int), AV.bool (okB (rel o) t i (k + (1 : Nat))), I (↑o.length : Int), I (↑i : Int), I (↑o.length : Int), I (↑(k + (1 : Nat)) : Int)])) (by kernel_rfl) ?_⟩
          refine ⟨by first | with_reducible assumption | omega | assumption, ?_⟩
          refine ⟨by first | exact told_shr (by first | exact Int.natCast_nonneg _ | omega) (by with_reducible assumption) | exact told_shr (by omega) rfl, ?_⟩
          refine ⟨told_and (by with_reducible assumption), ?_⟩
          refine ⟨acall_b (acall_hit (c := c73.to) (o, r, k, i) _ rfl p73) b1, ?_⟩
          refine ⟨told_add (by with_reducible assumption), ?_⟩
          refine ⟨by first | with_reducible assumption | omega | assumption, ?_⟩
          refine ⟨by first | with_reducible assumption | omega | assumption, ?_⟩
          exact ⟨rfl, by rw [hkk]⟩
      · rw [hv] at hkk
        have hkk : okB (rel o) t i (k + 1) = true := by rw [hkk]; rfl
        have ev1 := i_shr (a := t) (n := k) (by omega)
        have ev2 : IntKind.i64.wrap ((BitVec.ofInt IntKind.i64.bits ((t >>> k : Nat) : Int) &&& BitVec.ofInt IntKind.i64.bits 1).toNat : Int) = 1 := by rw [i_bit (by omega), hv]; rfl
        refine ⟨[Ans.o (Orc.b true), Ans.o (Orc.val 39 (I (↑(t >>> k) : Int)) H.nil), Ans.o (Orc.val 40 (I 1) H.nil), Ans.o Orc.dflt, Ans.o (Orc.val 50 (I (↑(k + (1 : Nat)) : Int)) H.nil)], fun u => of_eq ((↑k : Int) < (↑o.length : Int) ∧ aBin Try.prog BinOp.shr (3 : Nat) (I (↑t : Int)) (I (↑k : Int)) = some (I (↑(t >>> k) : Int)) ∧ aBin Try.prog BinOp.and (3 : Nat) (I (↑(t >>> k) : Int)) (I 1) = some (I 1) ∧ aBin Try.prog BinOp.add (3 : Nat) (I (↑k : Int)) (I 1) = some (I (↑(k + (1 : Nat)) : Int)) ∧ (69 : Nat) = (69 : Nat) ∧ k < o.length ∧ Keep (H.mk [] T [] = H.mk [] T [] ∧ [AV.sl (ints o) o.length r, I (↑t : Int), AV.sl (ints (ic b)) (ic b).length (rr (kr b)), I (↑(ic b).length : Int), va, I (↑i : Int), AV.bool true, I (↑o.length : Int), I (↑i : Int), I (↑o.length : Int), I (↑(k + (1 : Nat)) : Int)] = [AV.sl (ints o) o.length r, I (↑t : Int), AV.sl (ints (ic b)) (ic b).length (rr (kr b)), I (↑(ic b).length : Int), va, I (↑i : Int), AV.bool (okB (rel o) t i (k + (1 : Nat))), I (↑o.length : Int), I (↑i : Int), I (↑o.length : Int), I (↑(k + (1 : Nat)) : Int)])) (by kernel_rfl) ?_⟩
        refine ⟨by first | with_reducible assumption | omega | assumption, ?_⟩
        refine ⟨by first | exact told_shr (by first | exact Int.natCast_nonneg _ | omega) (by with_reducible assumption) | exact told_shr (by omega) rfl, ?_⟩
        refine ⟨told_and (by with_reducible assumption), ?_⟩
        refine ⟨told_add (by with_reducible assumption), ?_⟩
        refine ⟨by first | with_reducible assumption | omega | assumption, ?_⟩
        refine ⟨by first | with_reducible assumption | omega | assumption, ?_⟩
        exact ⟨rfl, by rw [hkk]⟩
  · have hz : (o.length : Int) ≤ k := by omega
    have hk' : k = o.length := by omega
    subst hk'
    refine ⟨[Ans.o (Orc.b false)], fun u => of_eq ((↑o.length : Int) ≤ (↑o.length : Int) ∧ (69 : Nat) = (69 : Nat) ∧ hits [Out.mk Unit (AX.exit (2 : Nat)) [(0 : Nat), (1 : Nat), (2 : Nat), (7 : Nat), (8 : Nat), (9 : Nat), (10 : Nat), (21 : Nat), (22 : Nat)] (fun x => True) (fun x => [ls o r, I (↑t : Int), bg b (rr (kr b)), I (↑(ic b).length : Int), va, I (↑i : Int), AV.bool (okB (rel o) t i o.length), I (↑o.length : Int), I (↑i : Int)]) (fun x => H.mk [] T []) fun x => []] (AX.exit (2 : Nat)) [AV.sl (ints o) o.length r, I (↑t : Int), AV.sl (ints (ic b)) (ic b).length (rr (kr b)), u (3 : Nat), u (4 : Nat), u (5 : Nat), u (6 : Nat), I (↑(ic b).length : Int), va, I (↑i : Int), AV.bool (okB (rel o) t i o.length), u (11 : Nat), u (12 : Nat), u (13 : Nat), u (14 : Nat), u (15 : Nat), u (16 : Nat), u (17 : Nat), u (18 : Nat), u (19 : Nat), u (20 : Nat), I (↑o.length : Int), I (↑i : Int), u (23 : Nat), u (24 : Nat), u (25 : Nat), u (26 : Nat), u (27 : Nat), u (28 : Nat), u (29 : Nat), u (30 : Nat), I (↑o.length : Int), I (↑o.length : Int), AV.bool false, u (34 : Nat), u (35 : Nat), u (36 : Nat), u (37 : Nat), u (38 : Nat), u (39 : Nat), u (40 : Nat), u (41 : Nat), u (42 : Nat), u (43 : Nat), u (44 : Nat), u (45 : Nat), u (46 : Nat), u (47 : Nat), u (48 : Nat), u (49 : Nat), u (50 : Nat), u (51 : Nat), u (52 : Nat), u (53 : Nat), u (54 : Nat), u (55 : Nat), u (56 : Nat), u (57 : Nat), u (58 : Nat), u (59 : Nat), u (60 : Nat), u (61 : Nat), u (62 : Nat), u (63 : Nat), u (64 : Nat), u (65 : Nat), u (66 : Nat), u (67 : Nat), u (68 : Nat)] (H.mk [] T [])) (by kernel_rfl) ?_⟩
    refine ⟨by first | with_reducible assumption | omega | assumption, ?_⟩
    refine ⟨by first | with_reducible assumption | omega | assumption, ?_⟩
    exact .inl ⟨(), trivial, rfl, rfl, rfl⟩
end Go.Proofs.Ord

