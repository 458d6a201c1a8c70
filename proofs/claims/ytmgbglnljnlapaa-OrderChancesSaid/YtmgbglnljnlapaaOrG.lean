/- Layer 7: what an order is, by the reference. -/
import Derived.Test.YtmgbglnljnlapaaOrF
import Derived.KernelRfl
set_option linter.unusedSimpArgs false
set_option linter.unusedVariables false
set_option linter.unnecessarySimpa false
set_option maxHeartbeats 4000000
set_option maxRecDepth 100000
namespace Go.Proofs.Ord
open Go Go.VM
open Go.Proofs.Sur (andn andn_bit andn_le i_wrap i_and i_or i_andn i_shl i_shr bit_01)

/-- all of x is in s -/
abbrev sub (x s : Int) : Prop := 0 ≤ x ∧ x.toNat &&& s.toNat = x.toNat
abbrev rs_ (x s : Int) : Int := IntKind.i64.wrap ((BitVec.ofInt IntKind.i64.bits x &&& ~~~BitVec.ofInt IntKind.i64.bits s).toNat : Int)
theorem rs_0 {x s : Int} (hs : 0 ≤ s ∧ s < 64) (hx : i64 x) : rs_ x s = 0 ↔ sub x s := by
  obtain ⟨m, rfl⟩ : ∃ m : Nat, s = m := ⟨s.toNat, by omega⟩
  have e : rs_ x (m : Int) = (BitVec.ofInt 64 x &&& ~~~BitVec.ofInt 64 (m : Int)).toInt := wrap_bv _
  have hm : (BitVec.ofInt 64 (m : Int)).toNat = m := by
    rw [BitVec.toNat_ofInt]; omega
  constructor
  · intro h
    rw [e] at h
    have h0 : BitVec.ofInt 64 x &&& ~~~BitVec.ofInt 64 (m : Int) = 0#64 := BitVec.eq_of_toInt_eq (by rw [h]; rfl)
    have h1 : BitVec.ofInt 64 x &&& BitVec.ofInt 64 (m : Int) = BitVec.ofInt 64 x := by
      ext i hi
      have := congrArg (fun b => b.getLsbD i) h0
      simp only [BitVec.getLsbD_and, BitVec.getLsbD_not, hi, decide_true, Bool.true_and, BitVec.getLsbD_zero] at this
      simp only [BitVec.getElem_and]
      rw [← BitVec.getLsbD_eq_getElem, ← BitVec.getLsbD_eq_getElem]
      cases p : (BitVec.ofInt 64 x).getLsbD i <;> cases q : (BitVec.ofInt 64 (m : Int)).getLsbD i <;> simp_all
    have h2 := congrArg BitVec.toNat h1
    rw [BitVec.toNat_and, hm] at h2
    have h3 : (BitVec.ofInt 64 x).toNat ≤ m := by rw [← h2]; exact Nat.and_le_right
    have h4 : (BitVec.ofInt 64 x).toNat = (x % 18446744073709551616).toNat := BitVec.toNat_ofInt x
    have hx0 : 0 ≤ x := by omega
    have h5 : (BitVec.ofInt 64 x).toNat = x.toNat := by omega
    rw [h5] at h2
    exact ⟨hx0, h2⟩
  · rintro ⟨h1, h2⟩
    obtain ⟨a, rfl⟩ : ∃ a : Nat, x = a := ⟨x.toNat, by omega⟩
    simp only [Int.toNat_natCast] at h2
    have := i_andn (a := a) (b := m) (by omega)
    rw [rs_, this]
    have : andn a m = 0 := by
      apply Nat.eq_of_testBit_eq; intro i
      rw [andn_bit (by omega), Nat.zero_testBit]
      have := congrArg (fun b => b.testBit i) h2
      simp only [Nat.testBit_and] at this
      cases p : a.testBit i <;> cases q : m.testBit i <;> simp_all
    rw [this]; rfl
/-- what is asked of an element, and of two -/
abbrev q3 (o : List Int) (i j : Nat) : Prop := bi (ia o i) j = true → sub (ia o j) (ia o i)
abbrev q4 (o : List Int) (i : Nat) : Prop := ∀ j, j < o.length → q3 o i j
abbrev q5 (o : List Int) (i : Nat) : Prop := (q1 o i ∧ bi (ia o i) i = false) ∧ q4 o i
theorem ordL_iff {o : List Int} : OrdL o ↔ sz o ∧ ∀ i, i < o.length → q5 o i := by
  constructor
  · intro h
    refine ⟨h.s, fun i hi => ⟨⟨h.r i hi, ?_⟩, fun j hj hb => ⟨(h.r j hj).1, ?_⟩⟩⟩
    · have := h.i i
      simp only [ab, rel] at this
      simpa [bi] using this
    · apply Nat.eq_of_testBit_eq; intro k
      rw [Nat.testBit_and]
      cases p : (ia o j).toNat.testBit k
      · rfl
      · have : ab (rel o) i k := h.t i j k hb p
        simp only [ab, rel] at this
        rw [this]; rfl
  · rintro ⟨hs, h⟩
    have hr : rgO o := fun i hi => (h i hi).1.1
    have hg := rel_rg hr
    refine ⟨hs, hr, fun i j k p q => ?_, fun i p => ?_⟩
    · have hi := (hg.bit p).1
      have hj := (hg.bit q).1
      have := ((h i hi).2 j hj p).2
      have := congrArg (fun b => b.testBit k) this
      simp only [Nat.testBit_and] at this
      have q' : (ia o j).toNat.testBit k = true := q
      rw [q', Bool.true_and] at this
      exact this
    · have hi := (hg.bit p).1
      have := (h i hi).1.2
      have p' : (ia o i).toNat.testBit i = true := p
      rw [bi, p'] at this; cases this
theorem i_bitv {x : Int} {n : Nat} (h0 : 0 ≤ x) (h : x < 64) (hn : n ≤ 64) (b : Bool) (hb : bi x n = b) :
    x.fdiv (2 ^ min ((n : Int)).toNat IntKind.i64.bits) = ((x.toNat >>> n : Nat) : Int) ∧ IntKind.i64.wrap ((BitVec.ofInt IntKind.i64.bits ((x.toNat >>> n : Nat) : Int) &&& BitVec.ofInt IntKind.i64.bits 1).toNat : Int) = ((b.toNat : Nat) : Int) := by
  obtain ⟨a, rfl⟩ : ∃ a : Nat, x = a := ⟨x.toNat, by omega⟩
  simp only [Int.toNat_natCast] at *
  refine ⟨i_shr hn, ?_⟩
  rw [i_bit (by omega)]
  rw [bi, Int.toNat_natCast] at hb
  rw [hb]
abbrev o24b (o : List Int) (r : Room) (i : Nat) : List Out :=
  [.mk Unit .ret [2] (fun _ => ¬ q4 o i) (fun _ => [.bool false]) (fun _ => .nil) (fun _ => []), .mk Unit (.exit 2) [0, 14, 15, 16] (fun _ => q4 o i) (fun _ => [ls o r, ls o r, I o.length, I i]) (fun _ => .nil) (fun _ => [])]
theorem simp24b : allSimpleM none1 (loopAt Try.f24 1) = true := by kernel_rfl
theorem lp24b (o : List Int) (r : Room) (h1 : sz o) (h2 : rok o r) (h3 : inI o) (i : Nat) (hi : i < o.length) (hq : q1 o i) :
    LoopS (En6 []) (loopAt Try.f24 1) 58 [0, 4, 14, 15, 16, 38, 39] [ls o r, I (ia o i), ls o r, I o.length, I i, I o.length, I 0] .nil (o24b o r i) := by
  have hR : Rests (En6 []) none1 := rests mixed .nil
  have h6 := h1.2
  have p6 : 2 ^ o.length ≤ 2 ^ 6 := Nat.pow_le_pow_right (by decide) h6
  have hb64 : 0 ≤ ia o i ∧ ia o i < 64 := by have := hq; omega
  refine loop_s hR simp24b none (by intro _ h; cases h) (fun j vs h => h = .nil ∧ vs = [ls o r, I (ia o i), ls o r, I o.length, I i, I o.length, I j] ∧ ∀ k, k < j → q3 o i k) o.length ⟨rfl, rfl, fun i hi => absurd hi (by omega)⟩ (by intro _ h; cases h) ?_
  rintro j vs h hj ⟨rfl, rfl, ha⟩
  by_cases hz : (j : Int) < o.length
  · have hz' : j < o.length := by omega
    have hr := rok_idx h2 hz'
    have ev0 := wj1 (j := j) (by omega)
    have hw := rs_0 hb64 (h3 j hz')
    cases hb : bi (ia o i) j
    · obtain ⟨ev1, ev2⟩ := i_bitv hb64.1 hb64.2 (show j ≤ 64 by omega) false hb
      have ev2 : IntKind.i64.wrap ((BitVec.ofInt IntKind.i64.bits (((ia o i).toNat >>> j : Nat) : Int) &&& BitVec.ofInt IntKind.i64.bits 1).toNat : Int) = 0 := ev2
      have hk := all_succ (q := q3 o i) ha (fun h => by rw [hb] at h; cases h)
      refine ⟨[Ans.o (Orc.b true), Ans.o (Orc.val 44 (I (↑((ia o i).toNat >>> j) : Int)) H.nil), Ans.o (Orc.val 45 (I (↑false.toNat : Int)) H.nil), Ans.o Orc.dflt, Ans.o (Orc.val 56 (I (↑(j + (1 : Nat)) : Int)) H.nil)], fun u => of_eq ((↑j : Int) < (↑o.length : Int) ∧ aBin Try.prog BinOp.shr (3 : Nat) (I (ia o i)) (I (↑j : Int)) = some (I (↑((ia o i).toNat >>> j) : Int)) ∧ aBin Try.prog BinOp.and (3 : Nat) (I (↑((ia o i).toNat >>> j) : Int)) (I 1) = some (I 0) ∧ aBin Try.prog BinOp.add (3 : Nat) (I (↑j : Int)) (I 1) = some (I (↑(j + (1 : Nat)) : Int)) ∧ (58 : Nat) = (58 : Nat) ∧ j < o.length ∧ Keep (H.mk [] [] [] = H.mk [] [] [] ∧ [AV.sl (ints o) o.length r, I (ia o i), AV.sl (ints o) o.length r, I (↑o.length : Int), I (↑i : Int), I (↑o.length : Int), I (↑(j + (1 : Nat)) : Int)] = [AV.sl (ints o) o.length r, I (ia o i), AV.sl (ints o) o.length r, I (↑o.length : Int), I (↑i : Int), I (↑o.length : Int), I (↑(j + (1 : Nat)) : Int)] ∧ ∀ (k : Nat), k < j + (1 : Nat) → q3 o i k)) (by kernel_rfl) ?_⟩
      refine ⟨by first | with_reducible assumption | omega | assumption, ?_⟩
      refine ⟨by first | exact told_shr (by first | exact Int.natCast_nonneg _ | omega) (by with_reducible assumption) | exact told_shr (by omega) rfl, ?_⟩
      refine ⟨told_and (by with_reducible assumption), ?_⟩
      refine ⟨told_add (by with_reducible assumption), ?_⟩
      refine ⟨by first | with_reducible assumption | omega | assumption, ?_⟩
      refine ⟨by first | with_reducible assumption | omega | assumption, ?_⟩
      exact ⟨rfl, rfl, hk⟩
    · obtain ⟨ev1, ev2⟩ := i_bitv hb64.1 hb64.2 (show j ≤ 64 by omega) true hb
      have ev2 : IntKind.i64.wrap ((BitVec.ofInt IntKind.i64.bits (((ia o i).toNat >>> j : Nat) : Int) &&& BitVec.ofInt IntKind.i64.bits 1).toNat : Int) = 1 := ev2
      by_cases c1 : sub (ia o j) (ia o i)
      · have ev3 : rs_ (ia o j) (ia o i) = 0 := hw.2 c1
        have hk := all_succ (q := q3 o i) ha (fun _ => c1)
        refine ⟨[Ans.o (Orc.b true), Ans.o (Orc.val 44 (I (↑((ia o i).toNat >>> j) : Int)) H.nil), Ans.o (Orc.val 45 (I (↑true.toNat : Int)) H.nil), Ans.o Orc.dflt, Ans.o (Orc.val 50 (AV.cptr (ints (List.drop j o))) H.nil), Ans.o (Orc.val 51 (I (o.getD j i0)) H.nil), Ans.o (Orc.val 53 (I 0) H.nil), Ans.o Orc.dflt, Ans.o (Orc.val 56 (I (↑(j + (1 : Nat)) : Int)) H.nil)], fun u => of_eq ((↑j : Int) < (↑o.length : Int) ∧ aBin Try.prog BinOp.shr (3 : Nat) (I (ia o i)) (I (↑j : Int)) = some (I (↑((ia o i).toNat >>> j) : Int)) ∧ aBin Try.prog BinOp.and (3 : Nat) (I (↑((ia o i).toNat >>> j) : Int)) (I 1) = some (I 1) ∧ aIndexAddr Try.prog (23 : Nat) (AV.sl (ints o) o.length r) (I (↑j : Int)) = some (AV.cptr (ints (List.drop j o))) ∧ aLoad Try.prog (3 : Nat) (ints (List.drop j o)) = some (I (o.getD j i0)) ∧ aBin Try.prog BinOp.andNot (3 : Nat) (I (o.getD j i0)) (I (ia o i)) = some (I 0) ∧ aBin Try.prog BinOp.add (3 : Nat) (I (↑j : Int)) (I 1) = some (I (↑(j + (1 : Nat)) : Int)) ∧ (58 : Nat) = (58 : Nat) ∧ j < o.length ∧ Keep (H.mk [] [] [] = H.mk [] [] [] ∧ [AV.sl (ints o) o.length r, I (ia o i), AV.sl (ints o) o.length r, I (↑o.length : Int), I (↑i : Int), I (↑o.length : Int), I (↑(j + (1 : Nat)) : Int)] = [AV.sl (ints o) o.length r, I (ia o i), AV.sl (ints o) o.length r, I (↑o.length : Int), I (↑i : Int), I (↑o.length : Int), I (↑(j + (1 : Nat)) : Int)] ∧ ∀ (k : Nat), k < j + (1 : Nat) → q3 o i k)) (by kernel_rfl) ?_⟩
        refine ⟨by first | with_reducible assumption | omega | assumption, ?_⟩
        refine ⟨by first | exact told_shr (by first | exact Int.natCast_nonneg _ | omega) (by with_reducible assumption) | exact told_shr (by omega) rfl, ?_⟩
        refine ⟨told_and (by with_reducible assumption), ?_⟩
        refine ⟨by first | exact ix_ints (by kernel_rfl) (by omega) (by assumption) | exact ix_ints (by kernel_rfl) (by omega) (rok_idx (by assumption) (by omega)), ?_⟩
        refine ⟨by first | exact ld_ints (by kernel_rfl) (by kernel_rfl) (by omega) | exact ldm_ints (by kernel_rfl) (by kernel_rfl) (by first | omega | (simp; omega)), ?_⟩
        refine ⟨told_andn (by with_reducible assumption), ?_⟩
        refine ⟨told_add (by with_reducible assumption), ?_⟩
        refine ⟨by first | with_reducible assumption | omega | assumption, ?_⟩
        refine ⟨by first | with_reducible assumption | omega | assumption, ?_⟩
        exact ⟨rfl, rfl, hk⟩
      · have c2 : rs_ (ia o j) (ia o i) ≠ 0 := fun h => c1 (hw.1 h)
        have hn : ¬ q4 o i := fun h => c1 (h j hz' hb)
        refine ⟨[Ans.o (Orc.b true), Ans.o (Orc.val 44 (I (↑((ia o i).toNat >>> j) : Int)) H.nil), Ans.o (Orc.val 45 (I (↑true.toNat : Int)) H.nil), Ans.o Orc.dflt, Ans.o (Orc.val 50 (AV.cptr (ints (List.drop j o))) H.nil), Ans.o (Orc.val 51 (I (o.getD j i0)) H.nil), Ans.o (Orc.b true)], fun u => of_eq ((↑j : Int) < (↑o.length : Int) ∧ aBin Try.prog BinOp.shr (3 : Nat) (I (ia o i)) (I (↑j : Int)) = some (I (↑((ia o i).toNat >>> j) : Int)) ∧ aBin Try.prog BinOp.and (3 : Nat) (I (↑((ia o i).toNat >>> j) : Int)) (I 1) = some (I 1) ∧ aIndexAddr Try.prog (23 : Nat) (AV.sl (ints o) o.length r) (I (↑j : Int)) = some (AV.cptr (ints (List.drop j o))) ∧ aLoad Try.prog (3 : Nat) (ints (List.drop j o)) = some (I (o.getD j i0)) ∧ IntKind.i64.wrap (↑(BitVec.ofInt IntKind.i64.bits (o.getD j i0) &&& ~~~BitVec.ofInt IntKind.i64.bits (ia o i)).toNat : Int) ≠ (0 : Int) ∧ (58 : Nat) = (58 : Nat) ∧ hits [Out.mk Unit AX.ret [(2 : Nat)] (fun x => ¬q4 o i) (fun x => [AV.bool false]) (fun x => H.nil) fun x => [], Out.mk Unit (AX.exit (2 : Nat)) [(0 : Nat), (14 : Nat), (15 : Nat), (16 : Nat)] (fun x => q4 o i) (fun x => [ls o r, ls o r, I (↑o.length : Int), I (↑i : Int)]) (fun x => H.nil) fun x => []] AX.ret [AV.sl (ints o) o.length r, u (1 : Nat), AV.bool false, u (3 : Nat), I (ia o i), I (↑j : Int), u (6 : Nat), u (7 : Nat), u (8 : Nat), u (9 : Nat), u (10 : Nat), u (11 : Nat), u (12 : Nat), u (13 : Nat), AV.sl (ints o) o.length r, I (↑o.length : Int), I (↑i : Int), u (17 : Nat), u (18 : Nat), u (19 : Nat), u (20 : Nat), u (21 : Nat), u (22 : Nat), u (23 : Nat), u (24 : Nat), u (25 : Nat), u (26 : Nat), u (27 : Nat), u (28 : Nat), u (29 : Nat), u (30 : Nat), u (31 : Nat), u (32 : Nat), u (33 : Nat), u (34 : Nat), u (35 : Nat), u (36 : Nat), u (37 : Nat), I (↑o.length : Int), I (↑j : Int), AV.bool true, I (↑j : Int), I (ia o i), I (↑j : Int), I (↑((ia o i).toNat >>> j) : Int), I 1, AV.bool true, AV.bool true, AV.sl (ints o) o.length r, I (↑j : Int), AV.cptr (ints (List.drop j o)), I (o.getD j i0), I (ia o i), I (IntKind.i64.wrap (↑(BitVec.ofInt IntKind.i64.bits (o.getD j i0) &&& ~~~BitVec.ofInt IntKind.i64.bits (ia o i)).toNat : Int)), AV.bool true, AV.bool true, u (56 : Nat), u (57 : Nat)] (H.mk [] [] [])) (by kernel_rfl) ?_⟩
        refine ⟨by first | with_reducible assumption | omega | assumption, ?_⟩
        refine ⟨by first | exact told_shr (by first | exact Int.natCast_nonneg _ | omega) (by with_reducible assumption) | exact told_shr (by omega) rfl, ?_⟩
        refine ⟨told_and (by with_reducible assumption), ?_⟩
        refine ⟨by first | exact ix_ints (by kernel_rfl) (by omega) (by assumption) | exact ix_ints (by kernel_rfl) (by omega) (rok_idx (by assumption) (by omega)), ?_⟩
        refine ⟨by first | exact ld_ints (by kernel_rfl) (by kernel_rfl) (by omega) | exact ldm_ints (by kernel_rfl) (by kernel_rfl) (by first | omega | (simp; omega)), ?_⟩
        refine ⟨by first | with_reducible assumption | omega | assumption, ?_⟩
        refine ⟨by first | with_reducible assumption | omega | assumption, ?_⟩
        exact .inl ⟨(), hn, rfl, rfl, rfl⟩
  · have hz : (o.length : Int) ≤ j := by omega
    have hj' : j = o.length := by omega
    subst hj'
    refine ⟨[Ans.o (Orc.b false)], fun u => of_eq ((↑o.length : Int) ≤ (↑o.length : Int) ∧ (58 : Nat) = (58 : Nat) ∧ hits [Out.mk Unit AX.ret [(2 : Nat)] (fun x => ¬q4 o i) (fun x => [AV.bool false]) (fun x => H.nil) fun x => [], Out.mk Unit (AX.exit (2 : Nat)) [(0 : Nat), (14 : Nat), (15 : Nat), (16 : Nat)] (fun x => q4 o i) (fun x => [ls o r, ls o r, I (↑o.length : Int), I (↑i : Int)]) (fun x => H.nil) fun x => []] (AX.exit (2 : Nat)) [AV.sl (ints o) o.length r, u (1 : Nat), u (2 : Nat), u (3 : Nat), I (ia o i), u (5 : Nat), u (6 : Nat), u (7 : Nat), u (8 : Nat), u (9 : Nat), u (10 : Nat), u (11 : Nat), u (12 : Nat), u (13 : Nat), AV.sl (ints o) o.length r, I (↑o.length : Int), I (↑i : Int), u (17 : Nat), u (18 : Nat), u (19 : Nat), u (20 : Nat), u (21 : Nat), u (22 : Nat), u (23 : Nat), u (24 : Nat), u (25 : Nat), u (26 : Nat), u (27 : Nat), u (28 : Nat), u (29 : Nat), u (30 : Nat), u (31 : Nat), u (32 : Nat), u (33 : Nat), u (34 : Nat), u (35 : Nat), u (36 : Nat), u (37 : Nat), I (↑o.length : Int), I (↑o.length : Int), AV.bool false, u (41 : Nat), u (42 : Nat), u (43 : Nat), u (44 : Nat), u (45 : Nat), u (46 : Nat), u (47 : Nat), u (48 : Nat), u (49 : Nat), u (50 : Nat), u (51 : Nat), u (52 : Nat), u (53 : Nat), u (54 : Nat), u (55 : Nat), u (56 : Nat), u (57 : Nat)] (H.mk [] [] [])) (by kernel_rfl) ?_⟩
    refine ⟨by first | with_reducible assumption | omega | assumption, ?_⟩
    refine ⟨by first | with_reducible assumption | omega | assumption, ?_⟩
    exact .inr (.inl ⟨(), ha, rfl, rfl, rfl⟩)
abbrev o24 (o : List Int) : List Out :=
  [.mk Unit .ret [2] (fun _ => ¬ ∀ i, i < o.length → q5 o i) (fun _ => [.bool false]) (fun _ => .nil) (fun _ => []), .mk Unit (.exit 0) [] (fun _ => ∀ i, i < o.length → q5 o i) (fun _ => []) (fun _ => .nil) (fun _ => [])]
theorem simp24 : allSimpleM none1 (loopAt Try.f24 0) = true := by kernel_rfl
theorem lp24 (o : List Int) (r : Room) (h1 : sz o) (h2 : rok o r) (h3 : inI o) :
    LoopS (En6 []) (loopAt Try.f24 0) 58 [0, 14, 15, 16] [ls o r, ls o r, I o.length, I 0] .nil (o24 o) := by
  have hR : Rests (En6 []) none1 := rests mixed .nil
  have h6 := h1.2
  have p6 : 2 ^ o.length ≤ 2 ^ 6 := Nat.pow_le_pow_right (by decide) h6
  have ev0 := pw_shl (n := o.length) (by omega)
  refine loop_s hR simp24 none (by intro _ h; cases h) (fun j vs h => h = .nil ∧ vs = [ls o r, ls o r, I o.length, I j] ∧ ∀ k, k < j → q5 o k) o.length ⟨rfl, rfl, fun i hi => absurd hi (by omega)⟩ (by intro _ h; cases h) ?_
  rintro j vs h hj ⟨rfl, rfl, ha⟩
  by_cases hz : (j : Int) < o.length
  · have hz' : j < o.length := by omega
    have hr := rok_idx h2 hz'
    have ev1 := wj1 (j := j) (by omega)
    by_cases c1 : ia o j < 0
    · have hn : ¬ ∀ i, i < o.length → q5 o i := fun h => by have := (h j hz').1.1.1; omega
      refine ⟨[Ans.o (Orc.b true), Ans.o (Orc.val 19 (AV.cptr (ints (List.drop j o))) H.nil), Ans.o (Orc.val 20 (I (o.getD j i0)) H.nil), Ans.o (Orc.b true)], fun u => of_eq ((↑j : Int) < (↑o.length : Int) ∧ aIndexAddr Try.prog (23 : Nat) (AV.sl (ints o) o.length r) (I (↑j : Int)) = some (AV.cptr (ints (List.drop j o))) ∧ aLoad Try.prog (3 : Nat) (ints (List.drop j o)) = some (I (o.getD j i0)) ∧ o.getD j i0 < (0 : Int) ∧ (58 : Nat) = (58 : Nat) ∧ hits [Out.mk Unit AX.ret [(2 : Nat)] (fun x => ¬∀ (i : Nat), i < o.length → q5 o i) (fun x => [AV.bool false]) (fun x => H.nil) fun x => [], Out.mk Unit (AX.exit (0 : Nat)) [] (fun x => ∀ (i : Nat), i < o.length → q5 o i) (fun x => []) (fun x => H.nil) fun x => []] AX.ret [AV.sl (ints o) o.length r, u (1 : Nat), AV.bool false, I (↑j : Int), I (o.getD j i0), u (5 : Nat), u (6 : Nat), u (7 : Nat), u (8 : Nat), u (9 : Nat), u (10 : Nat), u (11 : Nat), u (12 : Nat), u (13 : Nat), AV.sl (ints o) o.length r, I (↑o.length : Int), I (↑j : Int), AV.bool true, I (↑j : Int), AV.cptr (ints (List.drop j o)), I (o.getD j i0), I (o.getD j i0), AV.bool true, AV.bool true, AV.tup [], AV.tup [], AV.tup [], AV.tup [], AV.tup [], AV.bool true, AV.bool true, AV.tup [], AV.tup [], AV.tup [], AV.tup [], AV.tup [], AV.bool true, u (37 : Nat), u (38 : Nat), u (39 : Nat), u (40 : Nat), u (41 : Nat), u (42 : Nat), u (43 : Nat), u (44 : Nat), u (45 : Nat), u (46 : Nat), u (47 : Nat), u (48 : Nat), u (49 : Nat), u (50 : Nat), u (51 : Nat), u (52 : Nat), u (53 : Nat), u (54 : Nat), u (55 : Nat), u (56 : Nat), u (57 : Nat)] (H.mk [] [] [])) (by kernel_rfl) ?_⟩
      refine ⟨by first | with_reducible assumption | omega | assumption, ?_⟩
      refine ⟨by first | exact ix_ints (by kernel_rfl) (by omega) (by assumption) | exact ix_ints (by kernel_rfl) (by omega) (rok_idx (by assumption) (by omega)), ?_⟩
      refine ⟨by first | exact ld_ints (by kernel_rfl) (by kernel_rfl) (by omega) | exact ldm_ints (by kernel_rfl) (by kernel_rfl) (by first | omega | (simp; omega)), ?_⟩
      refine ⟨by first | with_reducible assumption | omega | assumption, ?_⟩
      refine ⟨by first | with_reducible assumption | omega | assumption, ?_⟩
      exact .inl ⟨(), hn, rfl, rfl, rfl⟩
    · have c1 : 0 ≤ ia o j := by omega
      by_cases c2 : ((2 ^ o.length : Nat) : Int) ≤ ia o j
      · have hn : ¬ ∀ i, i < o.length → q5 o i := fun h => by have := (h j hz').1.1.2; omega
        refine ⟨[Ans.o (Orc.b true), Ans.o (Orc.val 19 (AV.cptr (ints (List.drop j o))) H.nil), Ans.o (Orc.val 20 (I (o.getD j i0)) H.nil), Ans.o (Orc.b false), Ans.o (Orc.val 27 (I (↑((2 : Nat) ^ o.length) : Int)) H.nil), Ans.o (Orc.b true)], fun u => of_eq ((↑j : Int) < (↑o.length : Int) ∧ aIndexAddr Try.prog (23 : Nat) (AV.sl (ints o) o.length r) (I (↑j : Int)) = some (AV.cptr (ints (List.drop j o))) ∧ aLoad Try.prog (3 : Nat) (ints (List.drop j o)) = some (I (o.getD j i0)) ∧ (0 : Int) ≤ o.getD j i0 ∧ aBin Try.prog BinOp.shl (3 : Nat) (I 1) (I (↑o.length : Int)) = some (I (↑((2 : Nat) ^ o.length) : Int)) ∧ (↑((2 : Nat) ^ o.length) : Int) ≤ o.getD j i0 ∧ (58 : Nat) = (58 : Nat) ∧ hits [Out.mk Unit AX.ret [(2 : Nat)] (fun x => ¬∀ (i : Nat), i < o.length → q5 o i) (fun x => [AV.bool false]) (fun x => H.nil) fun x => [], Out.mk Unit (AX.exit (0 : Nat)) [] (fun x => ∀ (i : Nat), i < o.length → q5 o i) (fun x => []) (fun x => H.nil) fun x => []] AX.ret [AV.sl (ints o) o.length r, u (1 : Nat), AV.bool false, I (↑j : Int), I (o.getD j i0), u (5 : Nat), u (6 : Nat), u (7 : Nat), u (8 : Nat), u (9 : Nat), u (10 : Nat), u (11 : Nat), u (12 : Nat), u (13 : Nat), AV.sl (ints o) o.length r, I (↑o.length : Int), I (↑j : Int), AV.bool true, I (↑j : Int), AV.cptr (ints (List.drop j o)), I (o.getD j i0), I (o.getD j i0), AV.bool false, AV.bool false, I (o.getD j i0), AV.sl (ints o) o.length r, I (↑o.length : Int), I (↑((2 : Nat) ^ o.length) : Int), AV.bool true, AV.bool true, AV.bool true, AV.tup [], AV.tup [], AV.tup [], AV.tup [], AV.tup [], AV.bool true, u (37 : Nat), u (38 : Nat), u (39 : Nat), u (40 : Nat), u (41 : Nat), u (42 : Nat), u (43 : Nat), u (44 : Nat), u (45 : Nat), u (46 : Nat), u (47 : Nat), u (48 : Nat), u (49 : Nat), u (50 : Nat), u (51 : Nat), u (52 : Nat), u (53 : Nat), u (54 : Nat), u (55 : Nat), u (56 : Nat), u (57 : Nat)] (H.mk [] [] [])) (by kernel_rfl) ?_⟩
        refine ⟨by first | with_reducible assumption | omega | assumption, ?_⟩
        refine ⟨by first | exact ix_ints (by kernel_rfl) (by omega) (by assumption) | exact ix_ints (by kernel_rfl) (by omega) (rok_idx (by assumption) (by omega)), ?_⟩
        refine ⟨by first | exact ld_ints (by kernel_rfl) (by kernel_rfl) (by omega) | exact ldm_ints (by kernel_rfl) (by kernel_rfl) (by first | omega | (simp; omega)), ?_⟩
        refine ⟨by first | with_reducible assumption | omega | assumption, ?_⟩
        refine ⟨by first | exact told_shl (by first | exact Int.natCast_nonneg _ | omega) (by with_reducible assumption) | exact told_shl (by omega) rfl, ?_⟩
        refine ⟨by first | with_reducible assumption | omega | assumption, ?_⟩
        refine ⟨by first | with_reducible assumption | omega | assumption, ?_⟩
        exact .inl ⟨(), hn, rfl, rfl, rfl⟩
      · have c2 : ia o j < ((2 ^ o.length : Nat) : Int) := by omega
        have c3 : q1 o j := ⟨c1, c2⟩
        cases hb : bi (ia o j) j
        · obtain ⟨ev2, ev3⟩ := i_bitv c1 (show ia o j < 64 by omega) (show j ≤ 64 by omega) false hb
          have ev3 : IntKind.i64.wrap ((BitVec.ofInt IntKind.i64.bits (((ia o j).toNat >>> j : Nat) : Int) &&& BitVec.ofInt IntKind.i64.bits 1).toNat : Int) = 0 := ev3
          have hl := lp24b o r h1 h2 h3 j hz' c3
          refine ⟨[Ans.o (Orc.b true), Ans.o (Orc.val 19 (AV.cptr (ints (List.drop j o))) H.nil), Ans.o (Orc.val 20 (I (o.getD j i0)) H.nil), Ans.o (Orc.b false), Ans.o (Orc.val 27 (I (↑((2 : Nat) ^ o.length) : Int)) H.nil), Ans.o (Orc.b false), Ans.o (Orc.val 33 (I (↑((ia o j).toNat >>> j) : Int)) H.nil), Ans.o (Orc.val 34 (I (↑false.toNat : Int)) H.nil), Ans.o Orc.dflt, Ans.loop [(0 : Nat), (4 : Nat), (14 : Nat), (15 : Nat), (16 : Nat), (38 : Nat), (39 : Nat)] [Out.mk Unit AX.ret [(2 : Nat)] (fun x => ¬q4 o j) (fun x => [AV.bool false]) (fun x => H.nil) fun y => [], Out.mk Unit (AX.exit (2 : Nat)) [(0 : Nat), (14 : Nat), (15 : Nat), (16 : Nat)] (fun x => q4 o j) (fun x => [ls o r, ls o r, I (↑o.length : Int), I (↑j : Int)]) (fun x => H.nil) fun y => [Ans.o (Orc.val 57 (I (↑(j + (1 : Nat)) : Int)) H.nil)]]], fun u => of_eq ((↑j : Int) < (↑o.length : Int) ∧ aIndexAddr Try.prog (23 : Nat) (AV.sl (ints o) o.length r) (I (↑j : Int)) = some (AV.cptr (ints (List.drop j o))) ∧ aLoad Try.prog (3 : Nat) (ints (List.drop j o)) = some (I (o.getD j i0)) ∧ (0 : Int) ≤ o.getD j i0 ∧ aBin Try.prog BinOp.shl (3 : Nat) (I 1) (I (↑o.length : Int)) = some (I (↑((2 : Nat) ^ o.length) : Int)) ∧ o.getD j i0 < (↑((2 : Nat) ^ o.length) : Int) ∧ aBin Try.prog BinOp.shr (3 : Nat) (I (o.getD j i0)) (I (↑j : Int)) = some (I (↑((ia o j).toNat >>> j) : Int)) ∧ aBin Try.prog BinOp.and (3 : Nat) (I (↑((ia o j).toNat >>> j) : Int)) (I 1) = some (I 0) ∧ LoopS (Env.mk Try.prog (Sof (P := Try.prog) []) (Pof (P := Try.prog) []) H.nil.base (300 : Nat)) (loopAt Try.f24 (1 : Nat)) (58 : Nat) [(0 : Nat), (4 : Nat), (14 : Nat), (15 : Nat), (16 : Nat), (38 : Nat), (39 : Nat)] [AV.sl (ints o) o.length r, I (o.getD j i0), AV.sl (ints o) o.length r, I (↑o.length : Int), I (↑j : Int), I (↑o.length : Int), I 0] (H.mk [] [] []) [Out.mk Unit AX.ret [(2 : Nat)] (fun x => ¬q4 o j) (fun x => [AV.bool false]) (fun x => H.nil) fun y => [], Out.mk Unit (AX.exit (2 : Nat)) [(0 : Nat), (14 : Nat), (15 : Nat), (16 : Nat)] (fun x => q4 o j) (fun x => [ls o r, ls o r, I (↑o.length : Int), I (↑j : Int)]) (fun x => H.nil) fun y => [Ans.o (Orc.val 57 (I (↑(j + (1 : Nat)) : Int)) H.nil)]] ∧ (∀ (y : Unit), ¬q4 o j → ∀ (u : Nat → AV), (58 : Nat) = (58 : Nat) ∧ hits [Out.mk Unit AX.ret [(2 : Nat)] (fun x => ¬∀ (i : Nat), i < o.length → q5 o i) (fun x => [AV.bool false]) (fun x => H.nil) fun x => [], Out.mk Unit (AX.exit (0 : Nat)) [] (fun x => ∀ (i : Nat), i < o.length → q5 o i) (fun x => []) (fun x => H.nil) fun x => []] AX.ret [u (0 : Nat), u (1 : Nat), AV.bool false, u (3 : Nat), u (4 : Nat), u (5 : Nat), u (6 : Nat), u (7 : Nat), u (8 : Nat), u (9 : Nat), u (10 : Nat), u (11 : Nat), u (12 : Nat), u (13 : Nat), u (14 : Nat), u (15 : Nat), u (16 : Nat), u (17 : Nat), u (18 : Nat), u (19 : Nat), u (20 : Nat), u (21 : Nat), u (22 : Nat), u (23 : Nat), u (24 : Nat), u (25 : Nat), u (26 : Nat), u (27 : Nat), u (28 : Nat), u (29 : Nat), u (30 : Nat), u (31 : Nat), u (32 : Nat), u (33 : Nat), u (34 : Nat), u (35 : Nat), u (36 : Nat), u (37 : Nat), u (38 : Nat), u (39 : Nat), u (40 : Nat), u (41 : Nat), u (42 : Nat), u (43 : Nat), u (44 : Nat), u (45 : Nat), u (46 : Nat), u (47 : Nat), u (48 : Nat), u (49 : Nat), u (50 : Nat), u (51 : Nat), u (52 : Nat), u (53 : Nat), u (54 : Nat), u (55 : Nat), u (56 : Nat), u (57 : Nat)] (H.mk [] [] [])) ∧ (∀ (y : Unit), (∀ (j_1 : Nat), j_1 < o.length → bi (ia o j) j_1 = true → (0 : Int) ≤ ia o j_1 ∧ (ia o j_1).toNat &&& (ia o j).toNat = (ia o j_1).toNat) → ∀ (u : Nat → AV), aBin Try.prog BinOp.add (3 : Nat) (I (↑j : Int)) (I 1) = some (I (↑(j + (1 : Nat)) : Int)) ∧ (58 : Nat) = (58 : Nat) ∧ j < o.length ∧ Keep (H.mk [] [] [] = H.mk [] [] [] ∧ [AV.sl (ints o) o.length r, AV.sl (ints o) o.length r, I (↑o.length : Int), I (↑(j + (1 : Nat)) : Int)] = [AV.sl (ints o) o.length r, AV.sl (ints o) o.length r, I (↑o.length : Int), I (↑(j + (1 : Nat)) : Int)] ∧ ∀ (k : Nat), k < j + (1 : Nat) → q5 o k)) ∧ True) (by kernel_rfl) ?_⟩
          refine ⟨by first | with_reducible assumption | omega | assumption, ?_⟩
          refine ⟨by first | exact ix_ints (by kernel_rfl) (by omega) (by assumption) | exact ix_ints (by kernel_rfl) (by omega) (rok_idx (by assumption) (by omega)), ?_⟩
          refine ⟨by first | exact ld_ints (by kernel_rfl) (by kernel_rfl) (by omega) | exact ldm_ints (by kernel_rfl) (by kernel_rfl) (by first | omega | (simp; omega)), ?_⟩
          refine ⟨by first | with_reducible assumption | omega | assumption, ?_⟩
          refine ⟨by first | exact told_shl (by first | exact Int.natCast_nonneg _ | omega) (by with_reducible assumption) | exact told_shl (by omega) rfl, ?_⟩
          refine ⟨by first | with_reducible assumption | omega | assumption, ?_⟩
          refine ⟨by first | exact told_shr (by first | exact Int.natCast_nonneg _ | omega) (by with_reducible assumption) | exact told_shr (by omega) rfl, ?_⟩
          refine ⟨told_and (by with_reducible assumption), ?_⟩
          refine ⟨hl, ?_⟩
          refine And.intro ?_ ?_
          · skip
            intro y
            intro w1
            intro u
            refine ⟨by first | with_reducible assumption | omega | assumption, ?_⟩
            exact .inl ⟨(), fun h => (by with_reducible assumption : ¬ q4 o j) (h j hz').2, rfl, rfl, rfl⟩
          · skip
            refine And.intro ?_ ?_
            · skip
              intro y
              intro w1
              intro u
              refine ⟨told_add (by with_reducible assumption), ?_⟩
              refine ⟨by first | with_reducible assumption | omega | assumption, ?_⟩
              refine ⟨by first | with_reducible assumption | omega | assumption, ?_⟩
              exact ⟨rfl, rfl, all_succ (q := q5 o) ha ⟨⟨c3, hb⟩, by assumption⟩⟩
            · skip
              trivial
        · obtain ⟨ev2, ev3⟩ := i_bitv c1 (show ia o j < 64 by omega) (show j ≤ 64 by omega) true hb
          have ev3 : IntKind.i64.wrap ((BitVec.ofInt IntKind.i64.bits (((ia o j).toNat >>> j : Nat) : Int) &&& BitVec.ofInt IntKind.i64.bits 1).toNat : Int) = 1 := ev3
          have hn : ¬ ∀ i, i < o.length → q5 o i := fun h => by have := (h j hz').1.2; rw [hb] at this; cases this
          refine ⟨[Ans.o (Orc.b true), Ans.o (Orc.val 19 (AV.cptr (ints (List.drop j o))) H.nil), Ans.o (Orc.val 20 (I (o.getD j i0)) H.nil), Ans.o (Orc.b false), Ans.o (Orc.val 27 (I (↑((2 : Nat) ^ o.length) : Int)) H.nil), Ans.o (Orc.b false), Ans.o (Orc.val 33 (I (↑((ia o j).toNat >>> j) : Int)) H.nil), Ans.o (Orc.val 34 (I (↑true.toNat : Int)) H.nil), Ans.o Orc.dflt], fun u => of_eq ((↑j : Int) < (↑o.length : Int) ∧ aIndexAddr Try.prog (23 : Nat) (AV.sl (ints o) o.length r) (I (↑j : Int)) = some (AV.cptr (ints (List.drop j o))) ∧ aLoad Try.prog (3 : Nat) (ints (List.drop j o)) = some (I (o.getD j i0)) ∧ (0 : Int) ≤ o.getD j i0 ∧ aBin Try.prog BinOp.shl (3 : Nat) (I 1) (I (↑o.length : Int)) = some (I (↑((2 : Nat) ^ o.length) : Int)) ∧ o.getD j i0 < (↑((2 : Nat) ^ o.length) : Int) ∧ aBin Try.prog BinOp.shr (3 : Nat) (I (o.getD j i0)) (I (↑j : Int)) = some (I (↑((ia o j).toNat >>> j) : Int)) ∧ aBin Try.prog BinOp.and (3 : Nat) (I (↑((ia o j).toNat >>> j) : Int)) (I 1) = some (I 1) ∧ (58 : Nat) = (58 : Nat) ∧ hits [Out.mk Unit AX.ret [(2 : Nat)] (fun x => ¬∀ (i : Nat), i < o.length → q5 o i) (fun x => [AV.bool false]) (fun x => H.nil) fun x => [], Out.mk Unit (AX.exit (0 : Nat)) [] (fun x => ∀ (i : Nat), i < o.length → q5 o i) (fun x => []) (fun x => H.nil) fun x => []] AX.ret [AV.sl (ints o) o.length r, u (1 : Nat), AV.bool false, I (↑j : Int), I (o.getD j i0), u (5 : Nat), u (6 : Nat), u (7 : Nat), u (8 : Nat), u (9 : Nat), u (10 : Nat), u (11 : Nat), u (12 : Nat), u (13 : Nat), AV.sl (ints o) o.length r, I (↑o.length : Int), I (↑j : Int), AV.bool true, I (↑j : Int), AV.cptr (ints (List.drop j o)), I (o.getD j i0), I (o.getD j i0), AV.bool false, AV.bool false, I (o.getD j i0), AV.sl (ints o) o.length r, I (↑o.length : Int), I (↑((2 : Nat) ^ o.length) : Int), AV.bool false, AV.bool false, AV.bool false, I (o.getD j i0), I (↑j : Int), I (↑((ia o j).toNat >>> j) : Int), I 1, AV.bool true, AV.bool true, u (37 : Nat), u (38 : Nat), u (39 : Nat), u (40 : Nat), u (41 : Nat), u (42 : Nat), u (43 : Nat), u (44 : Nat), u (45 : Nat), u (46 : Nat), u (47 : Nat), u (48 : Nat), u (49 : Nat), u (50 : Nat), u (51 : Nat), u (52 : Nat), u (53 : Nat), u (54 : Nat), u (55 : Nat), u (56 : Nat), u (57 : Nat)] (H.mk [] [] [])) (by kernel_rfl) ?_⟩
          refine ⟨by first | with_reducible assumption | omega | assumption, ?_⟩
          refine ⟨by first | exact ix_ints (by kernel_rfl) (by omega) (by assumption) | exact ix_ints (by kernel_rfl) (by omega) (rok_idx (by assumption) (by omega)), ?_⟩
          refine ⟨by first | exact ld_ints (by kernel_rfl) (by kernel_rfl) (by omega) | exact ldm_ints (by kernel_rfl) (by kernel_rfl) (by first | omega | (simp; omega)), ?_⟩
          refine ⟨by first | with_reducible assumption | omega | assumption, ?_⟩
          refine ⟨by first | exact told_shl (by first | exact Int.natCast_nonneg _ | omega) (by with_reducible assumption) | exact told_shl (by omega) rfl, ?_⟩
          refine ⟨by first | with_reducible assumption | omega | assumption, ?_⟩
          refine ⟨by first | exact told_shr (by first | exact Int.natCast_nonneg _ | omega) (by with_reducible assumption) | exact told_shr (by omega) rfl, ?_⟩
          refine ⟨told_and (by with_reducible assumption), ?_⟩
          refine ⟨by first | with_reducible assumption | omega | assumption, ?_⟩
          exact .inl ⟨(), hn, rfl, rfl, rfl⟩
  · have hz : (o.length : Int) ≤ j := by omega
    have hj' : j = o.length := by omega
    subst hj'
    refine ⟨[Ans.o (Orc.b false)], fun u => of_eq ((↑o.length : Int) ≤ (↑o.length : Int) ∧ (58 : Nat) = (58 : Nat) ∧ hits [Out.mk Unit AX.ret [(2 : Nat)] (fun x => ¬∀ (i : Nat), i < o.length → q5 o i) (fun x => [AV.bool false]) (fun x => H.nil) fun x => [], Out.mk Unit (AX.exit (0 : Nat)) [] (fun x => ∀ (i : Nat), i < o.length → q5 o i) (fun x => []) (fun x => H.nil) fun x => []] (AX.exit (0 : Nat)) [AV.sl (ints o) o.length r, u (1 : Nat), u (2 : Nat), u (3 : Nat), u (4 : Nat), u (5 : Nat), u (6 : Nat), u (7 : Nat), u (8 : Nat), u (9 : Nat), u (10 : Nat), u (11 : Nat), u (12 : Nat), u (13 : Nat), AV.sl (ints o) o.length r, I (↑o.length : Int), I (↑o.length : Int), AV.bool false, u (18 : Nat), u (19 : Nat), u (20 : Nat), u (21 : Nat), u (22 : Nat), u (23 : Nat), u (24 : Nat), u (25 : Nat), u (26 : Nat), u (27 : Nat), u (28 : Nat), u (29 : Nat), u (30 : Nat), u (31 : Nat), u (32 : Nat), u (33 : Nat), u (34 : Nat), u (35 : Nat), u (36 : Nat), u (37 : Nat), u (38 : Nat), u (39 : Nat), u (40 : Nat), u (41 : Nat), u (42 : Nat), u (43 : Nat), u (44 : Nat), u (45 : Nat), u (46 : Nat), u (47 : Nat), u (48 : Nat), u (49 : Nat), u (50 : Nat), u (51 : Nat), u (52 : Nat), u (53 : Nat), u (54 : Nat), u (55 : Nat), u (56 : Nat), u (57 : Nat)] (H.mk [] [] [])) (by kernel_rfl) ?_⟩
    refine ⟨by first | with_reducible assumption | omega | assumption, ?_⟩
    refine ⟨by first | with_reducible assumption | omega | assumption, ?_⟩
    exact .inr (.inl ⟨(), ha, rfl, rfl, rfl⟩)
theorem ok24 : FokM Try.prog none1 24 Try.f24 := ⟨mixed, by kernel_rfl, by kernel_rfl, by kernel_rfl, by kernel_rfl⟩
theorem r24 (o : List Int) (r : Room) (h0 : lim o.length) (h2 : rok o r) (h3 : inI o) : Body (En6 []) none1 Try.f24 [ls o r] .nil (.bool (ordB o), .nil) := by
  by_cases h1 : sz o
  · have hl := lp24 o r h1 h2 h3
    have c1 : 1 ≤ (o.length : Int) := by have := h1.1; omega
    have c2 : (o.length : Int) ≤ 6 := by have := h1.2; omega
    refine body_s ([Ans.o (Orc.b false), Ans.o (Orc.b false), Ans.loop [(0 : Nat), (14 : Nat), (15 : Nat), (16 : Nat)] [Out.mk Unit AX.ret [(2 : Nat)] (fun x => ¬∀ (i : Nat), i < o.length → q5 o i) (fun x => [AV.bool false]) (fun x => H.nil) fun y => [], Out.mk Unit (AX.exit (0 : Nat)) [] (fun x => ∀ (i : Nat), i < o.length → q5 o i) (fun x => []) (fun x => H.nil) fun y => []]]) ((1 : Int) ≤ (↑o.length : Int) ∧ (↑o.length : Int) ≤ (6 : Int) ∧ LoopS (Env.mk Try.prog (Sof (P := Try.prog) []) (Pof (P := Try.prog) []) H.nil.base (300 : Nat)) (loopAt Try.f24 (0 : Nat)) (58 : Nat) [(0 : Nat), (14 : Nat), (15 : Nat), (16 : Nat)] [AV.sl (ints o) o.length r, AV.sl (ints o) o.length r, I (↑o.length : Int), I 0] (H.mk [] [] []) [Out.mk Unit AX.ret [(2 : Nat)] (fun x => ¬∀ (i : Nat), i < o.length → q5 o i) (fun x => [AV.bool false]) (fun x => H.nil) fun y => [], Out.mk Unit (AX.exit (0 : Nat)) [] (fun x => ∀ (i : Nat), i < o.length → q5 o i) (fun x => []) (fun x => H.nil) fun y => []] ∧ (∀ (y : Unit), (¬∀ (i : Nat), i < o.length → q5 o i) → ∀ (u : Nat → AV), (AV.bool false, H.mk [] [] []) = (AV.bool (ordB o), H.mk [] [] [])) ∧ (∀ (y : Unit), (∀ (i : Nat), i < o.length → (((0 : Int) ≤ ia o i ∧ ia o i < (↑((2 : Nat) ^ o.length) : Int)) ∧ bi (ia o i) i = false) ∧ ∀ (j : Nat), j < o.length → bi (ia o i) j = true → (0 : Int) ≤ ia o j ∧ (ia o j).toNat &&& (ia o i).toNat = (ia o j).toNat) → ∀ (u : Nat → AV), (AV.bool true, H.mk [] [] []) = (AV.bool (ordB o), H.mk [] [] [])) ∧ True) (by kernel_rfl) ?_
    refine ⟨by first | with_reducible assumption | omega | assumption, ?_⟩
    refine ⟨by first | with_reducible assumption | omega | assumption, ?_⟩
    refine ⟨hl, ?_⟩
    refine And.intro ?_ ?_
    · skip
      intro y
      intro w1
      intro u
      first | rw [ord_t (ordL_iff.2 ⟨h1, by with_reducible assumption⟩)] | rw [ord_f (fun h => (by with_reducible assumption : ¬ ∀ i, i < o.length → q5 o i) (ordL_iff.1 h).2)]
    · skip
      refine And.intro ?_ ?_
      · skip
        intro y
        intro w1
        intro u
        first | rw [ord_t (ordL_iff.2 ⟨h1, by with_reducible assumption⟩)] | rw [ord_f (fun h => (by with_reducible assumption : ¬ ∀ i, i < o.length → q5 o i) (ordL_iff.1 h).2)]
      · skip
        trivial
  · rw [ord_f (fun h => h1 h.s)]
    by_cases c1 : (o.length : Int) < 1
    · refine body_s ([Ans.o (Orc.b true)]) ((↑o.length : Int) < (1 : Int) ∧ (AV.bool false, H.mk [] [] []) = (AV.bool false, H.mk [] [] [])) (by kernel_rfl) ?_
      refine ⟨by first | with_reducible assumption | omega | assumption, ?_⟩
      first | with_reducible rfl | (refine bleaf_t ?_; omega) | (refine bleaf_f ?_; omega) | (refine ileaf ?_; omega) | rfl | (exfalso; omega)
    · have c1 : 1 ≤ (o.length : Int) := by omega
      have c2 : 6 < (o.length : Int) := by omega
      refine body_s ([Ans.o (Orc.b false), Ans.o (Orc.b true)]) ((1 : Int) ≤ (↑o.length : Int) ∧ (6 : Int) < (↑o.length : Int) ∧ (AV.bool false, H.mk [] [] []) = (AV.bool false, H.mk [] [] [])) (by kernel_rfl) ?_
      refine ⟨by first | with_reducible assumption | omega | assumption, ?_⟩
      refine ⟨by first | with_reducible assumption | omega | assumption, ?_⟩
      first | with_reducible rfl | (refine bleaf_t ?_; omega) | (refine bleaf_f ?_; omega) | (refine ileaf ?_; omega) | rfl | (exfalso; omega)
noncomputable def c24 : PCtr Try.prog := sctr ok24 (X := List Int × Room) (fun x => [ls x.1 x.2]) (fun x => pI x.1 x.2) (fun x => .bool (ordB x.1))
  (by rintro ⟨l, r⟩ ⟨m, s⟩ e _ _; simp at e; simp only [e.1]) (fun x => by simp [AV.bnds, AV.bnd, AV.wk, rm_wk_bnd]) (fun x => rfl)
  (fun x hx => ⟨_, _, _, .nil, r24 x.1 x.2.wk hx.1 (by simpa using hx.2.1) hx.2.2⟩)
end Go.Proofs.Ord

